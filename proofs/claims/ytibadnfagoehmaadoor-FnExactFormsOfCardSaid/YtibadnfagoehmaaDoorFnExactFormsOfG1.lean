/- The program's CanEncode. Joined of: SetsT, EscI, MaA, MaB, MaC, MaD, MaE, PrI, SetsJ, MaF, PrJ, PlA, PlB, PlC, PrK, EnI, ByteI, TokH, EnB. -/
import Derived.Test.YtibadnfagoehmaaDoorSetsF
import Derived.Test.YtibadnfagoehmaaDoorSpanA
import Derived.Test.YtibadnfagoehmaaDoorEscA
import Derived.Test.YtibadnfagoehmaaDoorStC
import Derived.Test.YtibadnfagoehmaaDoorDraw
import Derived.Test.YtibadnfagoehmaaDoorStD
import Derived.Test.YtibadnfagoehmaaDoorStN
import Derived.Test.YtibadnfagoehmaaDoorStE
import Derived.Test.YtibadnfagoehmaaDoorPrB
import Derived.Test.YtibadnfagoehmaaDoorStL
import Derived.Maps.OwnSet
import Derived.Laws.StructEq
import Derived.Great.Frames
import Derived.Test.YtibadnfagoehmaaDoorPrC
import Derived.Test.YtibadnfagoehmaaDoorEnU
import Derived.Test.YtibadnfagoehmaaDoorEnS
import Derived.Test.YtibadnfagoehmaaDoorEnW
import Derived.Test.YtibadnfagoehmaaDoorTokB
import Derived.Test.YtibadnfagoehmaaDoorTokD
import Derived.Test.YtibadnfagoehmaaDoorEnA

namespace Go.Proofs.YtibadnfagoehmaaDoor
open Go.RowKit

/-- The table's cells. -/
def TabSets (w : World) : Prop := ∀ k : Nat, 1 ≤ k → k ≤ 8 →
  w.cell? ⟨0, k * 4, none⟩ = some (.string (setName k)) ∧ w.cell? ⟨0, k * 4 + 1, none⟩ = some (.int .i64 (setKind k)) ∧ w.cell? ⟨0, k * 4 + 2, none⟩ = some (.int .i64 (setFinal k)) ∧
  ∃ v, w.cell? ⟨0, k * 4 + 3, none⟩ = some v ∧ SpAt w v (setSpans k)
theorem TabSets.keep {w w' : World} (h : TabSets w) (hb : Below w.heap.size w w') : TabSets w' := by
  intro k h1 h8
  obtain ⟨c0, c1, c2, v, c3, hs⟩ := h k h1 h8
  exact ⟨by rw [hb.cell (World.block_lt_of_cell? w _ c0)]; exact c0, by rw [hb.cell (World.block_lt_of_cell? w _ c1)]; exact c1, by rw [hb.cell (World.block_lt_of_cell? w _ c2)]; exact c2, v, by rw [hb.cell (World.block_lt_of_cell? w _ c3)]; exact c3, hs.keep hb⟩

theorem setB_nat {n : Int} (h : setB n = true) : ∃ k : Nat, n = (k : Int) ∧ 1 ≤ k ∧ k ≤ 8 := by
  have ⟨a, b⟩ := inB_true h
  exact ⟨n.toNat, by omega, by omega, by omega⟩

theorem impl_isSet (n : Int) (w : World) : Calls Tryd.prog 96 #[.int .i64 n] w fun e w' => e = .returned (.bool (setB n)) ∧ w = w' := by
  by_cases h1 : 1 ≤ n
  · by_cases h2 : n ≤ 8
    · have HE : Hid (setB n = true) := Lib.hid (by simp [setB, inB, h1, h2])
      go_enter Tryd.func96, Tryd.ntmps96
      go_wp2
      go_ret
      exact ⟨ret_bool HE.out.symm, rfl⟩
    · have HE : Hid (setB n = false) := Lib.hid (by simp [setB, inB, h2])
      go_enter Tryd.func96, Tryd.ntmps96
      go_wp2
      go_ret
      exact ⟨ret_bool HE.out.symm, rfl⟩
  · have HE : Hid (setB n = false) := Lib.hid (by simp [setB, inB, h1])
    go_enter Tryd.func96, Tryd.ntmps96
    go_wp2
    go_ret
    exact ⟨ret_bool HE.out.symm, rfl⟩

theorem impl_isCode94 (n : Int) (w : World) : Calls Tryd.prog 111 #[.int .i64 n] w fun e w' => e = .returned (.bool (inB n 33 126)) ∧ w = w' := by
  by_cases h1 : 33 ≤ n
  · by_cases h2 : n ≤ 126
    · have HE : Hid (inB n 33 126 = true) := Lib.hid (by simp [inB, h1, h2])
      go_enter Tryd.func111, Tryd.ntmps111
      go_wp2
      go_ret
      exact ⟨ret_bool HE.out.symm, rfl⟩
    · have HE : Hid (inB n 33 126 = false) := Lib.hid (by simp [inB, h2])
      go_enter Tryd.func111, Tryd.ntmps111
      go_wp2
      go_ret
      exact ⟨ret_bool HE.out.symm, rfl⟩
  · have HE : Hid (inB n 33 126 = false) := Lib.hid (by simp [inB, h1])
    go_enter Tryd.func111, Tryd.ntmps111
    go_wp2
    go_ret
    exact ⟨ret_bool HE.out.symm, rfl⟩

/-- A code of a kind, of any number. -/
def isCodeB (kind code : Int) : Bool := decide (0 ≤ code) && kindB kind code
theorem inB_false_of {n a b : Int} (h : ¬ (a ≤ n ∧ n ≤ b)) : inB n a b = false := by
  cases hh : inB n a b
  · rfl
  · exact absurd (inB_true hh) h

set_option maxHeartbeats 1000000 in
theorem impl_isCode (kind code : Int) (w : World) (hk : kind = 1 ∨ kind = 2 ∨ kind = 3) (hl : -9223372036854775808 ≤ code) (hu : code ≤ 9223372036854775807) :
    Calls Tryd.prog 131 #[.int .i64 kind, .int .i64 code] w fun e w' => e = .returned (.bool (isCodeB kind code)) ∧ w = w' := by
  rcases hk with rfl | rfl | rfl
  · have HE : Hid (isCodeB 1 code = inB code 33 126) := Lib.hid (by
      unfold isCodeB kindB
      cases h : inB code 33 126
      · simp
      · have := inB_true h
        simp; omega)
    go_enter Tryd.func131, Tryd.ntmps131
    go_wp2_with fail
    refine (impl_isCode94 code w).mono ?_
    rintro e w1 ⟨rfl, rfl⟩
    go_wp2
    go_ret
    exact ⟨ret_bool HE.out.symm, rfl⟩
  · by_cases h1 : 32 ≤ code
    · by_cases h2 : code ≤ 127
      · have HE : Hid (isCodeB 2 code = true) := Lib.hid (by simp [isCodeB, kindB, inB, h1, h2]; omega)
        go_enter Tryd.func131, Tryd.ntmps131
        go_wp2
        go_ret
        exact ⟨ret_bool HE.out.symm, rfl⟩
      · have HE : Hid (isCodeB 2 code = false) := Lib.hid (by simp [isCodeB, kindB, inB, h2])
        go_enter Tryd.func131, Tryd.ntmps131
        go_wp2
        go_ret
        exact ⟨ret_bool HE.out.symm, rfl⟩
    · have HE : Hid (isCodeB 2 code = false) := Lib.hid (by simp [isCodeB, kindB, inB, h1])
      go_enter Tryd.func131, Tryd.ntmps131
      go_wp2
      go_ret
      exact ⟨ret_bool HE.out.symm, rfl⟩
  · by_cases h0 : 0 ≤ code
    · have HK : Hid (isCodeB 3 code = (inB (code / 256) 33 126 && inB (code % 256) 33 126)) := Lib.hid (by simp [isCodeB, kindB, h0])
      have q1 : code.tdiv 256 = code / 256 := Int.tdiv_eq_ediv_of_nonneg h0
      have q2 : code.tmod 256 = code % 256 := Int.tmod_eq_emod_of_nonneg h0
      rw [HK.out]
      cases hb : inB (code / 256) 33 126
      · go_enter Tryd.func131, Tryd.ntmps131
        go_wp2_with fail
        refine (impl_isCode94 (code / 256) w).mono ?_
        rintro e w1 ⟨rfl, rfl⟩
        rw [hb]
        go_wp2
        go_ret
        exact ⟨rfl, rfl⟩
      · go_enter Tryd.func131, Tryd.ntmps131
        go_wp2_with fail
        refine (impl_isCode94 (code / 256) w).mono ?_
        rintro e w1 ⟨rfl, rfl⟩
        rw [hb]
        go_wp2_with fail
        refine (impl_isCode94 (code % 256) w).mono ?_
        rintro e w1 ⟨rfl, rfl⟩
        go_wp2
        go_ret
        exact ⟨by simp, rfl⟩
    · have HE : Hid (isCodeB 3 code = false) := Lib.hid (by simp [isCodeB, h0])
      have q0 : code.tdiv 256 ≤ 0 := by
        have h2 : (-code).tdiv 256 = -(code.tdiv 256) := Int.neg_tdiv ..
        have := Int.tdiv_nonneg (a := -code) (b := 256) (by omega) (by decide)
        omega
      have q3 : IntKind.i64.wrap (code.tdiv 256) = code.tdiv 256 := IntWalk.i64_in _ (by
        have h2 : (-code).tdiv 256 = -(code.tdiv 256) := Int.neg_tdiv ..
        have h3 : (-code).tdiv 256 = (-code) / 256 := Int.tdiv_eq_ediv_of_nonneg (by omega)
        omega)
      generalize hq : code.tdiv 256 = q at *
      have hb : inB q 33 126 = false := inB_false_of (by omega)
      go_enter Tryd.func131, Tryd.ntmps131
      go_wp2_with fail
      refine (impl_isCode94 q w).mono ?_
      rintro e w1 ⟨rfl, rfl⟩
      rw [hb]
      go_wp2
      go_ret
      exact ⟨ret_bool HE.out.symm, rfl⟩

theorem setKind_cases (n : Int) : setKind n = 1 ∨ setKind n = 2 ∨ setKind n = 3 := by
  unfold setKind
  repeat' split
  all_goals simp

theorem inB13 {kind : Int} (h1 : kind ≠ 1) (h2 : kind ≠ 2) (h3 : kind ≠ 3) : inB kind 1 3 = false := inB_false_of (by omega)

set_option maxHeartbeats 1000000 in
theorem impl_isKind (kind : Int) (w : World) : Calls Tryd.prog 121 #[.int .i64 kind] w fun e w' => e = .returned (.bool (inB kind 1 3)) ∧ w = w' := by
  by_cases h1 : kind = 1
  · subst h1
    go_enter Tryd.func121, Tryd.ntmps121
    go_wp2
    go_ret
    exact ⟨rfl, rfl⟩
  · by_cases h2 : kind = 2
    · subst h2
      go_enter Tryd.func121, Tryd.ntmps121
      go_wp2
      go_ret
      exact ⟨rfl, rfl⟩
    · by_cases h3 : kind = 3
      · subst h3
        go_enter Tryd.func121, Tryd.ntmps121
        go_wp2
        go_ret
        exact ⟨rfl, rfl⟩
      · have HE := Lib.hid (inB13 h1 h2 h3)
        have e1 : (kind == 1) = false := by simpa using h1
        have e2 : (kind == 2) = false := by simpa using h2
        have e3 : (kind == 3) = false := by simpa using h3
        clear h1 h2 h3
        go_enter Tryd.func121, Tryd.ntmps121
        go_wp2
        go_ret
        exact ⟨ret_bool HE.out.symm, rfl⟩

set_option maxHeartbeats 1000000 in
theorem impl_FindSet (kind final : Int) (w : World) (ht : TabSets w) : Calls Tryd.prog 119 #[.int .i64 kind, .int .i64 final] w fun e w' => e = .returned (fsV kind final) ∧ w = w' := by
  have HT := Lib.hid ht
  clear ht
  cases hk : inB kind 1 3
  · have HE := Lib.hid (fsV_bad kind final 9 (by simp [fsC, hk]) (by decide))
    go_enter Tryd.func119, Tryd.ntmps119
    go_wp2_with fail
    refine (impl_isKind kind w).mono ?_
    rintro e w1 ⟨rfl, rfl⟩
    rw [hk]
    go_wp2
    go_ret2
    exact ⟨ret_val HE.out.symm, rfl⟩
  · have HI := Lib.hid hk
    have HF : Hid (∀ c, findNo kind final = c → c = 0 → fsV kind final = .tuple #[.int .i64 0, .int .i64 5]) := Lib.hid (fun c h1 h2 => fsV_bad kind final 5 (by simp [fsC, HI.out, h1, h2]) (by decide))
    have HG : Hid (findNo kind final ≠ 0 → fsV kind final = .tuple #[.int .i64 (findNo kind final), .int .i64 0]) := Lib.hid (fun h => fsV_ok kind final (by simp [fsC, HI.out, h]))
    clear hk
    go_enter Tryd.func119, Tryd.ntmps119
    go_wp2_with fail
    refine (impl_isKind kind w).mono ?_
    rintro e w1 ⟨rfl, rfl⟩
    rw [HI.out]
    go_wp2
    go_loopw [6] (fun i wr => ∃ k f : Nat, k + f = 9 ∧ 1 ≤ k ∧ i = .int .i64 k ∧ Hid (findNo kind final = firstNo (fun k => decide (setKind k = kind) && decide (setFinal k = final)) f (k : Int)) ∧ Hid (w = wr)) (fun i _ => 9 - (intOf i).toNat)
    case atStart => exact ⟨1, 8, rfl, by omega, rfl, Lib.hid rfl, Lib.hid rfl⟩
    case round =>
      obtain ⟨k, f, hk, hk1, rfl, HR, HW⟩ := hrel
      by_cases hlt : k ≤ 8
      · obtain ⟨f, rfl⟩ : ∃ f', f = f' + 1 := ⟨f - 1, by omega⟩
        obtain ⟨_, c1, c2, _⟩ := HT.out k hk1 hlt
        have HU := Lib.hid (show firstNo (fun k => decide (setKind k = kind) && decide (setFinal k = final)) (f + 1) (k : Int) = if (decide (setKind (k : Int) = kind) && decide (setFinal (k : Int) = final)) = true then (k : Int) else firstNo (fun k => decide (setKind k = kind) && decide (setFinal k = final)) f ((k : Int) + 1) from rfl)
        rw [HW.out] at c1 c2
        have u1 : (0 : Int) ≤ (k : Int) := by omega
        have u2 : (k : Int) < 9 := by omega
        have u3 : (k : Int) ≤ 8 := by omega
        generalize setKind (k : Int) = a at *
        generalize setFinal (k : Int) = c at *
        by_cases h1 : a = kind
        · by_cases h2 : c = final
          · have HE : Hid (findNo kind final = (k : Int)) := Lib.hid (by rw [HR.out, HU.out]; simp [h1, h2])
            have z1 : (a == kind) = true := by simpa using h1
            have z2 : (c == final) = true := by simpa using h2
            clear h1 h2
            go_wp2
            go_ret2
            refine ⟨ret_val ?_, HW.out⟩
            rw [HG.out (by rw [HE.out]; omega), HE.out]
            rfl
          · have HX : Hid (findNo kind final = firstNo (fun k => decide (setKind k = kind) && decide (setFinal k = final)) f ((k + 1 : Nat) : Int)) := Lib.hid (by rw [HR.out, HU.out]; simp [h2])
            have z1 : (a == kind) = true := by simpa using h1
            have z2 : (c == final) = false := by simpa using h2
            clear h1 h2
            go_wp2
            go_roundw
            case rel => exact ⟨k + 1, f, by omega, by omega, by go_num, HX, HW⟩
            case measure => simp [intOf]; omega
        · have HX : Hid (findNo kind final = firstNo (fun k => decide (setKind k = kind) && decide (setFinal k = final)) f ((k + 1 : Nat) : Int)) := Lib.hid (by rw [HR.out, HU.out]; simp [h1])
          have z1 : (a == kind) = false := by simpa using h1
          clear h1
          go_wp2
          go_roundw
          case rel => exact ⟨k + 1, f, by omega, by omega, by go_num, HX, HW⟩
          case measure => simp [intOf]; omega
      · have hf : f = 0 := by omega
        subst hf
        have HE : Hid (findNo kind final = 0) := Lib.hid (by rw [HR.out]; rfl)
        go_wp2
        go_ret2
        exact ⟨ret_val (HF.out _ HE.out rfl).symm, HW.out⟩

end Go.Proofs.YtibadnfagoehmaaDoor

namespace Go.Proofs.YtibadnfagoehmaaDoor
open Go.RowKit

def regB (kd g : Int) : Bool := inB g 0 3 && !(decide (kd = 2) && decide (g = 0))
theorem impl_isRegisterFor (kd g : Int) (w : World) : Calls Tryd.prog 97 #[.int .i64 kd, .int .i64 g] w fun e w' => e = .returned (.bool (regB kd g)) ∧ w = w' := by
  by_cases h2 : kd = 2
  · subst h2
    by_cases h0 : g = 0
    · subst h0
      go_enter Tryd.func97, Tryd.ntmps97
      go_wp2
      go_ret
      exact ⟨rfl, rfl⟩
    · have HE : Hid (regB 2 g = inB g 0 3) := Lib.hid (by simp [regB, h0])
      have e0 : (g == 0) = false := by rw [beq_eq_false_iff_ne]; exact h0
      rw [HE.out]
      clear h0
      by_cases h1 : 0 ≤ g
      · by_cases h3 : g ≤ 3
        all_goals
          have HF := Lib.hid (show inB g 0 3 = decide (g ≤ 3) by simp [inB, h1])
          go_enter Tryd.func97, Tryd.ntmps97
          go_wp2
          go_ret
          exact ⟨ret_bool (by rw [HF.out]; simp [h3]), rfl⟩
      · have HF := Lib.hid (show inB g 0 3 = false by simp [inB, h1])
        go_enter Tryd.func97, Tryd.ntmps97
        go_wp2
        go_ret
        exact ⟨ret_bool HF.out.symm, rfl⟩
  · have HE : Hid (regB kd g = inB g 0 3) := Lib.hid (by simp [regB, h2])
    have e0 : (kd == 2) = false := by rw [beq_eq_false_iff_ne]; exact h2
    rw [HE.out]
    clear h2
    by_cases h1 : 0 ≤ g
    · by_cases h3 : g ≤ 3
      all_goals
        have HF := Lib.hid (show inB g 0 3 = decide (g ≤ 3) by simp [inB, h1])
        go_enter Tryd.func97, Tryd.ntmps97
        go_wp2
        go_ret
        exact ⟨ret_bool (by rw [HF.out]; simp [h3]), rfl⟩
    · have HF := Lib.hid (show inB g 0 3 = false by simp [inB, h1])
      go_enter Tryd.func97, Tryd.ntmps97
      go_wp2
      go_ret
      exact ⟨ret_bool HF.out.symm, rfl⟩

theorem bs_app (a b : List Int) : bs a ++ bs b = bs (a ++ b) := by
  apply ByteArray.ext
  simp [bs, ByteArray.data_append]
theorem par94_bs (g : Nat) (h : g < 4) : par94.extract g (g + 1) = bs [40 + (g : Int)] := by
  have : g = 0 ∨ g = 1 ∨ g = 2 ∨ g = 3 := by omega
  rcases this with rfl | rfl | rfl | rfl <;> decide
theorem par96_bs (g : Nat) (h0 : 0 < g) (h : g < 4) : par96.extract g (g + 1) = bs [44 + (g : Int)] := by
  have : g = 1 ∨ g = 2 ∨ g = 3 := by omega
  rcases this with rfl | rfl | rfl <;> decide
theorem bs36 : (⟨#[36]⟩ : ByteArray) = bs [36] := by decide
theorem escB_94 (g : Nat) (fi : Int) (h : g < 4) : escB g 1 fi = bs ([27] ++ [40 + (g : Int)] ++ [fi]) := by
  simp only [escB, if_true, par94_bs g h, bs_app]
theorem escB_96 (g : Nat) (fi : Int) (h0 : 0 < g) (h : g < 4) : escB g 2 fi = bs ([27] ++ [44 + (g : Int)] ++ [fi]) := by
  rw [escB, if_neg (by decide), if_pos rfl, par96_bs g h0 h, bs_app, bs_app]
theorem escB_s (fi : Int) (h : fi ≤ 66) : escB 0 3 fi = bs ([27] ++ [36] ++ [fi]) := by
  rw [escB, if_neg (by decide), if_neg (by decide), if_pos ⟨rfl, h⟩, bs36, bs_app, bs_app]
theorem escB_p (g : Nat) (fi : Int) (h : g < 4) (h66 : ¬ (g = 0 ∧ fi ≤ 66)) : escB g 3 fi = bs ([27] ++ [36] ++ [40 + (g : Int)] ++ [fi]) := by
  rw [escB, if_neg (by decide), if_neg (by decide), if_neg h66, par94_bs g h, bs36, bs_app, bs_app, bs_app]

theorem eoC_reg (g n : Int) (hn : setB n = true) : eoC g n = if regB (setKind n) g = true then 0 else 4 := by
  unfold eoC regB
  rw [if_pos hn]
  by_cases hi : inB g 0 3 = true
  · by_cases h2 : setKind n = 2 <;> by_cases h0 : g = 0 <;> simp [h2, h0, hi] <;> (subst h0; simp at hi; simp [hi])
  · have hf : inB g 0 3 = false := by simpa using hi
    simp [hf]

set_option maxHeartbeats 4000000 in
set_option maxRecDepth 100000 in
theorem impl_EscapeOf (g n : Int) (w : World) (ht : TabSets w) : Calls Tryd.prog 53 #[.int .i64 g, .int .i64 n] w fun e w' => e = .returned (eoV g n) ∧ Below w.heap.size w w' := by
  cases hn : setB n
  · have HE := Lib.hid (eoV_bad g n 5 (by simp [eoC, hn]) (by decide))
    clear ht
    go_enter Tryd.func53, Tryd.ntmps53
    go_wp2_with fail
    refine (impl_isSet n w).mono ?_
    rintro e w1 ⟨rfl, rfl⟩
    rw [hn]
    go_wp2
    go_ret2
    exact ⟨ret_val HE.out.symm, Below.refl _ _⟩
  have HC := Lib.hid (eoC_reg g n hn)
  obtain ⟨k, rfl, k1, k8⟩ := setB_nat hn
  obtain ⟨_, c1, c2, _⟩ := ht k k1 k8
  clear ht
  have u1 : (0 : Int) ≤ (k : Int) := by omega
  have u2 : (k : Int) < 9 := by omega
  have hk := setKind_in (k : Int)
  have ⟨f0, f1⟩ := setFinal_range (k : Int)
  have HV := Lib.hid (eoV_ok g (k : Int))
  generalize setKind (k : Int) = kd at *
  generalize setFinal (k : Int) = fi at *
  have uf : IntKind.u8.wrap fi = fi := by
    have : fi = 65 ∨ fi = 66 ∨ fi = 67 ∨ fi = 68 ∨ fi = 69 ∨ fi = 70 ∨ fi = 71 ∨ fi = 72 ∨ fi = 73 ∨ fi = 74 := by omega
    rcases this with h | h | h | h | h | h | h | h | h | h <;> rw [h] <;> rfl
  cases hr : regB kd g
  · have HE := Lib.hid (eoV_bad g (k : Int) 4 (by rw [HC.out, hr]; rfl) (by decide))
    go_enter Tryd.func53, Tryd.ntmps53
    go_wp2_with fail
    refine (impl_isSet (k : Int) w).mono ?_
    rintro e w1 ⟨rfl, rfl⟩
    rw [hn]
    go_wp2
    go_quiet (fail)
    go_wp2_with fail
    refine (impl_isRegisterFor kd g _).mono ?_
    rintro e w1 ⟨rfl, rfl⟩
    rw [hr]
    go_wp2
    go_ret2
    exact ⟨ret_val HE.out.symm, below_drewN (Below.refl _ _) _⟩
  have HE := Lib.hid (HV.out (by rw [HC.out, hr]; rfl))
  have hr2 : 0 ≤ g ∧ g ≤ 3 ∧ ¬ (kd = 2 ∧ g = 0) := by
    simp [regB, inB] at hr
    omega
  clear HV HC
  obtain ⟨g0, g3, g2⟩ := hr2
  obtain ⟨m, rfl⟩ := Int.eq_ofNat_of_zero_le g0
  rw [Int.toNat_natCast] at HE
  have hm : m < 4 := by omega
  go_enter Tryd.func53, Tryd.ntmps53
  go_wp2_with fail
  refine (impl_isSet (k : Int) w).mono ?_
  rintro e w1 ⟨rfl, rfl⟩
  rw [hn]
  go_wp2
  go_quiet (fail)
  go_wp2_with fail
  refine (impl_isRegisterFor kd (m : Int) _).mono ?_
  rintro e w1 ⟨rfl, rfl⟩
  rw [hr]
  have bw : Below w.heap.size w (w.drewN nq) := below_drewN (Below.refl _ _) nq
  generalize w.drewN nq = w0 at *
  have hs0 := bw.size
  clear c1 c2
  have o0 : Own .u8 5 (w0.alloc (.cells #[.int .u8 27] 5)) w.heap.size (.slice (some ⟨w0.heap.size, 0, none⟩) 1 1) [27] := Own.lit .u8 5 w0 w.heap.size [27] hs0 (by decide)
  have b0 : Below w.heap.size w (w0.alloc (.cells #[.int .u8 27] 5)) := bw.alloc hs0 _
  rcases hk with rfl | rfl | rfl
  · rw [escB_94 m fi hm] at HE
    have : m = 0 ∨ m = 1 ∨ m = 2 ∨ m = 3 := by omega
    rcases this with rfl | rfl | rfl | rfl
    all_goals
      go_wp2_with (at_builtin; refine app_u8 _ rfl _ _ rfl w.heap.size _ [27] rfl (o0.alloc _) ⟨w0.heap.size + 1, 0, none⟩ 1 1 [_] rfl rfl (by decide) (World.news_of_block (heap_alloc2_new _ _ _)) (by decide) (by simp; omega) ?_)
      intro g1 cap1 w1 o1 gr1 lt1
      have b1 : Below w.heap.size w w1 := (b0.alloc b0.size _).grown gr1 (by simp; omega) (fun j hj => (World.ownsRow.lt o0 j hj).1)
      clear o0 b0 gr1
      have hsz := b1.size
      go_wp2_with (at_builtin; refine app_u8 _ rfl _ _ rfl w.heap.size _ _ rfl (o1.alloc _) ⟨w1.heap.size, 0, none⟩ 1 1 [fi] rfl rfl (by decide) (World.news_of_block (heap_alloc_new _ _)) (by simp) (by simp; omega) ?_)
      intro g9 cap9 w9 o9 gr9 lt9
      have cv := conv_own o9
      have b9 : Below w.heap.size w w9 := (b1.alloc b1.size _).grown gr9 (by simp; omega) (fun j hj => (World.ownsRow.lt o1 j hj).1)
      clear o1 b1 gr9 o9
      go_wp2
      go_ret2
      exact ⟨ret_val HE.out.symm, b9⟩
      
  · have hm0 : 0 < m := by omega
    rw [escB_96 m fi hm0 hm] at HE
    have : m = 1 ∨ m = 2 ∨ m = 3 := by omega
    rcases this with rfl | rfl | rfl
    all_goals
      go_wp2_with (at_builtin; refine app_u8 _ rfl _ _ rfl w.heap.size _ [27] rfl (o0.alloc _) ⟨w0.heap.size + 1, 0, none⟩ 1 1 [_] rfl rfl (by decide) (World.news_of_block (heap_alloc2_new _ _ _)) (by decide) (by simp; omega) ?_)
      intro g1 cap1 w1 o1 gr1 lt1
      have b1 : Below w.heap.size w w1 := (b0.alloc b0.size _).grown gr1 (by simp; omega) (fun j hj => (World.ownsRow.lt o0 j hj).1)
      clear o0 b0 gr1
      have hsz := b1.size
      go_wp2_with (at_builtin; refine app_u8 _ rfl _ _ rfl w.heap.size _ _ rfl (o1.alloc _) ⟨w1.heap.size, 0, none⟩ 1 1 [fi] rfl rfl (by decide) (World.news_of_block (heap_alloc_new _ _)) (by simp) (by simp; omega) ?_)
      intro g9 cap9 w9 o9 gr9 lt9
      have cv := conv_own o9
      have b9 : Below w.heap.size w w9 := (b1.alloc b1.size _).grown gr9 (by simp; omega) (fun j hj => (World.ownsRow.lt o1 j hj).1)
      clear o1 b1 gr9 o9
      go_wp2
      go_ret2
      exact ⟨ret_val HE.out.symm, b9⟩
      
  · by_cases h66 : m = 0 ∧ fi ≤ 66
    · obtain ⟨rfl, h66⟩ := h66
      rw [escB_s fi h66] at HE
      go_wp2_with (at_builtin; refine app_u8 _ rfl _ _ rfl w.heap.size _ [27] rfl (o0.alloc _) ⟨w0.heap.size + 1, 0, none⟩ 1 1 [_] rfl rfl (by decide) (World.news_of_block (heap_alloc2_new _ _ _)) (by decide) (by simp; omega) ?_)
      intro g1 cap1 w1 o1 gr1 lt1
      have b1 : Below w.heap.size w w1 := (b0.alloc b0.size _).grown gr1 (by simp; omega) (fun j hj => (World.ownsRow.lt o0 j hj).1)
      clear o0 b0 gr1
      have hsz := b1.size
      go_wp2_with (at_builtin; refine app_u8 _ rfl _ _ rfl w.heap.size _ _ rfl (o1.alloc _) ⟨w1.heap.size, 0, none⟩ 1 1 [fi] rfl rfl (by decide) (World.news_of_block (heap_alloc_new _ _)) (by simp) (by simp; omega) ?_)
      intro g9 cap9 w9 o9 gr9 lt9
      have cv := conv_own o9
      have b9 : Below w.heap.size w w9 := (b1.alloc b1.size _).grown gr9 (by simp; omega) (fun j hj => (World.ownsRow.lt o1 j hj).1)
      clear o1 b1 gr9 o9
      go_wp2
      go_ret2
      exact ⟨ret_val HE.out.symm, b9⟩
      
    · rw [escB_p m fi hm h66] at HE
      have : (m = 0 ∧ 66 < fi) ∨ m = 1 ∨ m = 2 ∨ m = 3 := by omega
      rcases this with ⟨rfl, h67⟩ | rfl | rfl | rfl
      all_goals
        clear h66
        go_wp2_with (at_builtin; refine app_u8 _ rfl _ _ rfl w.heap.size _ [27] rfl (o0.alloc _) ⟨w0.heap.size + 1, 0, none⟩ 1 1 [_] rfl rfl (by decide) (World.news_of_block (heap_alloc2_new _ _ _)) (by decide) (by simp; omega) ?_)
        intro g1 cap1 w1 o1 gr1 lt1
        have b1 : Below w.heap.size w w1 := (b0.alloc b0.size _).grown gr1 (by simp; omega) (fun j hj => (World.ownsRow.lt o0 j hj).1)
        clear o0 b0 gr1
        have hsy := b1.size
        go_wp2_with (at_builtin; refine app_u8 _ rfl _ _ rfl w.heap.size _ _ rfl (o1.alloc _) ⟨w1.heap.size, 0, none⟩ 1 1 [_] rfl rfl (by decide) (World.news_of_block (heap_alloc_new _ _)) (by simp) (by simp; omega) ?_)
        intro g2 cap2 w2 o2 gr2 lt2
        have b2 : Below w.heap.size w w2 := (b1.alloc b1.size _).grown gr2 (by simp; omega) (fun j hj => (World.ownsRow.lt o1 j hj).1)
        clear o1 b1 gr2
        have hsz := b2.size
        go_wp2_with (at_builtin; refine app_u8 _ rfl _ _ rfl w.heap.size _ _ rfl (o2.alloc _) ⟨w2.heap.size, 0, none⟩ 1 1 [fi] rfl rfl (by decide) (World.news_of_block (heap_alloc_new _ _)) (by simp) (by simp; omega) ?_)
        intro g9 cap9 w9 o9 gr9 lt9
        have cv := conv_own o9
        have b9 : Below w.heap.size w w9 := (b2.alloc b2.size _).grown gr9 (by simp; omega) (fun j hj => (World.ownsRow.lt o2 j hj).1)
        clear o2 b2 gr9 o9
        go_wp2
        go_ret2
        exact ⟨ret_val HE.out.symm, b9⟩
        
end Go.Proofs.YtibadnfagoehmaaDoor

namespace Go.Proofs.YtibadnfagoehmaaDoor
open Go.RowKit

/-- A machine in block b. -/
def MAt (w : World) (b : Nat) (x : St) : Prop := w.heap[b]? = some (.cells #[.int .i64 x.g0, .int .i64 x.g1, .int .i64 x.g2, .int .i64 x.g3, .int .i64 x.l, .int .i64 x.s, .int .i64 x.d] 69)
theorem MAt.lt {w : World} {g : Nat} {x : St} (h : MAt w g x) : g < w.heap.size := (Array.getElem?_eq_some_iff.1 h).1
theorem MAt.keep {w w' : World} {g : Nat} {x : St} (h : MAt w g x) (b : Below w.heap.size w w') : MAt w' g x := (b.block g h.lt).trans h
theorem MAt.below {w w' : World} {g B : Nat} {x : St} (h : MAt w g x) (b : Below B w w') (hB : g < B) : MAt w' g x := (b.block g hB).trans h
theorem MAt.cells {w : World} {g : Nat} {x : St} (h : MAt w g x) : w.cell? ⟨g, 0, none⟩ = some (.int .i64 x.g0) ∧ w.cell? ⟨g, 1, none⟩ = some (.int .i64 x.g1) ∧ w.cell? ⟨g, 2, none⟩ = some (.int .i64 x.g2) ∧ w.cell? ⟨g, 3, none⟩ = some (.int .i64 x.g3) ∧ w.cell? ⟨g, 4, none⟩ = some (.int .i64 x.l) ∧ w.cell? ⟨g, 5, none⟩ = some (.int .i64 x.s) ∧ w.cell? ⟨g, 6, none⟩ = some (.int .i64 x.d) := by
  refine ⟨?_, ?_, ?_, ?_, ?_, ?_, ?_⟩ <;> (rw [cell_of_row _ _ _ _ _ _ h]; rfl)
theorem MAt.thaw {w : World} {g : Nat} {x : St} (h : MAt w g x) : w.frozen? ⟨g, 0, none⟩ = false ∧ w.frozen? ⟨g, 1, none⟩ = false ∧ w.frozen? ⟨g, 2, none⟩ = false ∧ w.frozen? ⟨g, 3, none⟩ = false ∧ w.frozen? ⟨g, 4, none⟩ = false ∧ w.frozen? ⟨g, 5, none⟩ = false ∧ w.frozen? ⟨g, 6, none⟩ = false :=
  ⟨frozen_of_row w _ 0 _ _ h, frozen_of_row w _ 1 _ _ h, frozen_of_row w _ 2 _ _ h, frozen_of_row w _ 3 _ _ h, frozen_of_row w _ 4 _ _ h, frozen_of_row w _ 5 _ _ h, frozen_of_row w _ 6 _ _ h⟩

set_option maxHeartbeats 1000000 in
theorem impl_machineOf (x : St) (w : World) : Calls Tryd.prog 40 #[stV x] w (StDone x w) := by
  unfold stV
  go_enter Tryd.func40, Tryd.ntmps40
  go_wp2
  exact st_ret (y := x) rfl rfl rfl (heap_alloc2_new _ _ _) Tryd.underlying69 rfl (by kernel_rfl) rfl (below_two _ _ _)

set_option maxHeartbeats 1000000 in
set_option maxRecDepth 100000 in
theorem impl_state (x : St) (b : Nat) (w : World) (h : MAt w b x) : Calls Tryd.prog 44 #[.pointer (some ⟨b, 0, none⟩)] w (StDone x w) := by
  have B0 := below_drewN (below_one w (.cells #[.int .i64 0, .int .i64 0, .int .i64 0, .int .i64 0, .int .i64 0, .int .i64 0, .int .i64 0] 24)) 1
  have HM := Lib.hid (h.keep B0)
  have HS : Hid (StAt ((w.alloc (.cells #[.int .i64 0, .int .i64 0, .int .i64 0, .int .i64 0, .int .i64 0, .int .i64 0, .int .i64 0] 24)).drewN 1) w.heap.size zeroSt) := Lib.hid (stSlot0 w)
  clear h
  go_enter Tryd.func44, Tryd.ntmps44
  go_wp2
  refine still_tail_w 33 ((w.alloc (.cells #[.int .i64 0, .int .i64 0, .int .i64 0, .int .i64 0, .int .i64 0, .int .i64 0, .int .i64 0] 24)).drewN 1) rfl (by kernel_rfl) (by kernel_rfl) ?_
  generalize (w.alloc (.cells #[.int .i64 0, .int .i64 0, .int .i64 0, .int .i64 0, .int .i64 0, .int .i64 0, .int .i64 0] 24)).drewN 1 = W2 at *
  have ⟨y0, y1, y2, y3, y4, y5, y6⟩ := HM.out.cells
  have ⟨r0, r1, r2, r3, r4, r5, r6⟩ := HS.out.cells
  have ⟨z0, z1, z2, z3, z4, z5, z6⟩ := HS.out.thaw
  simp only [zeroSt] at r0 r1 r2 r3 r4 r5 r6
  have hl : w.heap.size < W2.heap.size := HS.out.lt
  simp only [List.take_succ_cons, List.take_zero, List.drop_succ_cons, List.drop_zero]
  repeat still_step
  refine wpStill_nil ?_
  go_wp2
  exact st_ret (y := x) rfl rfl rfl (HS.out.put x) Tryd.underlying24 rfl (by kernel_rfl) rfl (below_putSt B0 (Nat.le_refl _) x)

def halfN (n : Int) : Int := if 128 ≤ n then 128 else 0
theorem impl_halfOf (n : Int) (w : World) : Calls Tryd.prog 115 #[.int .i64 n] w fun e w' => e = .returned (.int .i64 (halfN n)) ∧ w = w' := by
  by_cases h : 128 ≤ n
  · have HE : Hid (halfN n = 128) := Lib.hid (by simp [halfN, h])
    go_enter Tryd.func115, Tryd.ntmps115
    go_wp2
    go_ret
    exact ⟨ret_int HE.out.symm, rfl⟩
  · have HE : Hid (halfN n = 0) := Lib.hid (by simp [halfN, h])
    go_enter Tryd.func115, Tryd.ntmps115
    go_wp2
    go_ret
    exact ⟨ret_int HE.out.symm, rfl⟩

def pendI (x : St) : Bool := x.s != 0 || x.d != 0
theorem impl_pending (x : St) (b : Nat) (w : World) (h : MAt w b x) : Calls Tryd.prog 51 #[.pointer (some ⟨b, 0, none⟩)] w fun e w' => e = .returned (.bool (pendI x)) ∧ w = w' := by
  have ⟨y0, y1, y2, y3, y4, y5, y6⟩ := h.cells
  clear h
  by_cases hs : x.s = 0
  · have HE : Hid (pendI x = (x.d != 0)) := Lib.hid (by simp [pendI, hs])
    have es : (x.s != 0) = false := by simp [hs]
    go_enter Tryd.func51, Tryd.ntmps51
    go_wp2
    go_ret
    exact ⟨ret_bool HE.out.symm, rfl⟩
  · have HE : Hid (pendI x = true) := Lib.hid (by simp [pendI, hs])
    have es : (x.s != 0) = true := by simpa using hs
    go_enter Tryd.func51, Tryd.ntmps51
    go_wp2
    go_ret
    exact ⟨ret_bool HE.out.symm, rfl⟩

/-- The set of the register to which a half refers. -/
def setAt (x : St) (r : Bool) : Int := stGet x (sideOf x r)

set_option maxHeartbeats 1000000 in
theorem impl_setFor (x : St) (b : Nat) (half : Int) (w : World) (h : MAt w b x) (hh : headOK x = true) : Calls Tryd.prog 116 #[.pointer (some ⟨b, 0, none⟩), .int .i64 half] w fun e w' => e = .returned (.int .i64 (setAt x (half == 128))) ∧ Below w.heap.size w w' := by
  have ⟨y0, y1, y2, y3, y4, y5, y6⟩ := h.cells
  clear h
  unfold headOK at hh
  rw [Bool.and_eq_true, Bool.or_eq_true, decide_eq_true_eq] at hh
  have ⟨l0, l3⟩ := inB_true hh.1
  have hs : x.s = 0 ∨ x.s = 2 ∨ x.s = 3 := by
    rcases hh.2 with h2 | h2
    · exact .inl h2
    · have := inB_true h2; omega
  have hl : x.l = 0 ∨ x.l = 1 ∨ x.l = 2 ∨ x.l = 3 := by omega
  clear hh l0 l3
  rcases hs with hs | hs | hs
  · rw [hs] at y5
    cases h8 : (half == 128)
    · rcases hl with hl | hl | hl | hl
      · rw [hl] at y4
        have HE : Hid (setAt x false = x.g0) := Lib.hid (by unfold setAt sideOf; rw [hs, hl, if_neg (by decide), if_neg (by decide)]; rfl)
        rw [HE.out]
        clear hs hl
        go_enter Tryd.func116, Tryd.ntmps116
        go_wp2
        go_quiet (fail)
        go_wp2
        go_ret
        exact ⟨rfl, below_drewN (Below.refl _ _) _⟩
      · rw [hl] at y4
        have HE : Hid (setAt x false = x.g1) := Lib.hid (by unfold setAt sideOf; rw [hs, hl, if_neg (by decide), if_neg (by decide)]; rfl)
        rw [HE.out]
        clear hs hl
        go_enter Tryd.func116, Tryd.ntmps116
        go_wp2
        go_quiet (fail)
        go_wp2
        go_ret
        exact ⟨rfl, below_drewN (Below.refl _ _) _⟩
      · rw [hl] at y4
        have HE : Hid (setAt x false = x.g2) := Lib.hid (by unfold setAt sideOf; rw [hs, hl, if_neg (by decide), if_neg (by decide)]; rfl)
        rw [HE.out]
        clear hs hl
        go_enter Tryd.func116, Tryd.ntmps116
        go_wp2
        go_quiet (fail)
        go_wp2
        go_ret
        exact ⟨rfl, below_drewN (Below.refl _ _) _⟩
      · rw [hl] at y4
        have HE : Hid (setAt x false = x.g3) := Lib.hid (by unfold setAt sideOf; rw [hs, hl, if_neg (by decide), if_neg (by decide)]; rfl)
        rw [HE.out]
        clear hs hl
        go_enter Tryd.func116, Tryd.ntmps116
        go_wp2
        go_quiet (fail)
        go_wp2
        go_ret
        exact ⟨rfl, below_drewN (Below.refl _ _) _⟩
    · have HE : Hid (setAt x true = x.g1) := Lib.hid (by unfold setAt sideOf; rw [hs, if_neg (by decide), if_pos rfl]; rfl)
      rw [HE.out]
      go_enter Tryd.func116, Tryd.ntmps116
      go_wp2
      go_ret
      exact ⟨rfl, Below.refl _ _⟩
  · rw [hs] at y5
    have HE : Hid (setAt x (half == 128) = x.g2) := Lib.hid (by unfold setAt sideOf; rw [hs, if_pos (by decide)]; rfl)
    rw [HE.out]
    go_enter Tryd.func116, Tryd.ntmps116
    go_wp2
    go_quiet (fail)
    go_wp2
    go_ret
    exact ⟨rfl, below_drewN (Below.refl _ _) _⟩
  · rw [hs] at y5
    have HE : Hid (setAt x (half == 128) = x.g3) := Lib.hid (by unfold setAt sideOf; rw [hs, if_pos (by decide)]; rfl)
    rw [HE.out]
    go_enter Tryd.func116, Tryd.ntmps116
    go_wp2
    go_quiet (fail)
    go_wp2
    go_ret
    exact ⟨rfl, below_drewN (Below.refl _ _) _⟩

end Go.Proofs.YtibadnfagoehmaaDoor

namespace Go.Proofs.YtibadnfagoehmaaDoor
open Go.RowKit

/-- The table's kinds, with that of its first entry, which is no set. -/
def kind0 (q : Int) : Int := if q = 0 then 0 else setKind q
def TabM (w : World) : Prop := TabSets w ∧ w.cell? ⟨0, 1, none⟩ = some (.int .i64 0)
theorem TabM.keep {w w' : World} (h : TabM w) (hb : Below w.heap.size w w') : TabM w' := ⟨h.1.keep hb, by rw [hb.cell (World.block_lt_of_cell? w _ h.2)]; exact h.2⟩
theorem TabM.kind {w : World} (h : TabM w) (k : Nat) (hk : k ≤ 8) : w.cell? ⟨0, k * 4 + 1, none⟩ = some (.int .i64 (kind0 k)) := by
  by_cases h0 : k = 0
  · subst h0; exact h.2
  · have := (h.1 k (by omega) hk).2.1
    rw [this, kind0, if_neg (by omega)]

/-- A designation can put the set of register n there. -/
def rgB (x : St) (n : Int) : Bool := setB (stGet x n) && regB (setKind (stGet x n)) n
def rI (x : St) (j n : Nat) : Int := if n < j ∧ rgB x n = true then stGet x n else if n = 0 then 1 else 0
def RAt (w : World) (b : Nat) (x : St) (j : Nat) : Prop := w.heap[b]? = some (.cells #[.int .i64 (rI x j 0), .int .i64 (rI x j 1), .int .i64 (rI x j 2), .int .i64 (rI x j 3)] 67)
theorem rI_same {x : St} {j n : Nat} (h : n ≠ j ∨ rgB x n = false) : rI x (j + 1) n = rI x j n := by
  unfold rI
  rcases h with h | h
  · have : (n < j + 1) ↔ (n < j) := by omega
    simp only [this]
  · rw [h]; simp
theorem rI_new {x : St} {j : Nat} (h : rgB x j = true) : rI x (j + 1) j = stGet x j := by
  unfold rI; rw [if_pos ⟨by omega, h⟩]
theorem RAt.skip {w : World} {b : Nat} {x : St} {j : Nat} (h : RAt w b x j) (hf : rgB x j = false) : RAt w b x (j + 1) := by
  have e : ∀ n, rI x (j + 1) n = rI x j n := fun n => by
    by_cases hn : n = j
    · subst hn; exact rI_same (.inr hf)
    · exact rI_same (.inl hn)
  unfold RAt
  rw [e, e, e, e]
  exact h
theorem RAt.cells {w : World} {b : Nat} {x : St} {j : Nat} (h : RAt w b x j) : w.cell? ⟨b, 0, none⟩ = some (.int .i64 (rI x j 0)) ∧ w.cell? ⟨b, 1, none⟩ = some (.int .i64 (rI x j 1)) ∧ w.cell? ⟨b, 2, none⟩ = some (.int .i64 (rI x j 2)) ∧ w.cell? ⟨b, 3, none⟩ = some (.int .i64 (rI x j 3)) := by
  refine ⟨?_, ?_, ?_, ?_⟩ <;> (rw [cell_of_row _ _ _ _ _ _ h]; rfl)
theorem RAt.thaw {w : World} {b : Nat} {x : St} {j : Nat} (h : RAt w b x j) : w.frozen? ⟨b, 0, none⟩ = false ∧ w.frozen? ⟨b, 1, none⟩ = false ∧ w.frozen? ⟨b, 2, none⟩ = false ∧ w.frozen? ⟨b, 3, none⟩ = false :=
  ⟨frozen_of_row w _ 0 _ _ h, frozen_of_row w _ 1 _ _ h, frozen_of_row w _ 2 _ _ h, frozen_of_row w _ 3 _ _ h⟩
theorem RAt.lt {w : World} {g : Nat} {x : St} {j : Nat} (h : RAt w g x j) : g < w.heap.size := (Array.getElem?_eq_some_iff.1 h).1
theorem RAt.new (w : World) (x : St) : RAt (w.alloc (.cells #[.int .i64 1, .int .i64 0, .int .i64 0, .int .i64 0] 67)) w.heap.size x 0 := by
  have : ∀ n, rI x 0 n = if n = 0 then 1 else 0 := fun n => by unfold rI; rw [if_neg (by omega)]
  unfold RAt
  rw [this, this, this, this]
  exact heap_alloc_new _ _
theorem RAt.put {w : World} {b : Nat} {x : St} {j : Nat} (h : RAt w b x j) (hj : j < 4) (ht : rgB x j = true) : RAt (w.setCell ⟨b, j, none⟩ (.int .i64 (stGet x j))) b x (j + 1) := by
  have k := heap_setCell_same w b j _ _ (.int .i64 (stGet x j)) h
  unfold RAt
  rw [k]
  have e : ∀ n, n ≠ j → rI x (j + 1) n = rI x j n := fun n hn => rI_same (.inl hn)
  have e1 := rI_new ht
  have : j = 0 ∨ j = 1 ∨ j = 2 ∨ j = 3 := by omega
  rcases this with rfl | rfl | rfl | rfl
  · rw [e1, e 1 (by decide), e 2 (by decide), e 3 (by decide)]; rfl
  · rw [e1, e 0 (by decide), e 2 (by decide), e 3 (by decide)]; rfl
  · rw [e1, e 0 (by decide), e 1 (by decide), e 3 (by decide)]; rfl
  · rw [e1, e 0 (by decide), e 1 (by decide), e 2 (by decide)]; rfl

theorem reg_pure0 (g : Int) : ((if (setB g && regB (setKind g) 0) = true then g else 1) == g) = (inB g 0 8 && !(decide ((0 : Int) = 0) && (decide (g = 0) || decide (setKind g = 2)))) := by
  have hb : regB (setKind g) 0 = !decide (setKind g = 2) := by simp [regB, inB]
  rw [hb]
  by_cases h1 : 1 ≤ g ∧ g ≤ 8
  · have e1 : setB g = true := by simp [setB, inB, h1.1, h1.2]
    have e2 : inB g 0 8 = true := by simp [inB]; omega
    have e3 : decide (g = 0) = false := by simp; omega
    by_cases h2 : setKind g = 2
    · have e4 : ¬ (1 : Int) = g := fun h => by rw [← h] at h2; revert h2; decide
      simp [e1, e2, e3, h2, e4]
    · simp [e1, e2, e3, h2]
  · have e1 : setB g = false := by simp [setB, inB]; omega
    have e4 : ¬ (1 : Int) = g := by omega
    by_cases h6 : g = 0
    · subst h6; decide
    · have e2 : inB g 0 8 = false := by simp [inB]; omega
      simp [e1, e2, e4]
theorem reg_pureN (g : Int) (n : Nat) (h0 : n ≠ 0) (hn : n < 4) : ((if (setB g && regB (setKind g) n) = true then g else 0) == g) = (inB g 0 8 && !(decide ((n : Int) = 0) && (decide (g = 0) || decide (setKind g = 2)))) := by
  have hz : decide ((n : Int) = 0) = false := decide_eq_false (by omega)
  have hi : inB (n : Int) 0 3 = true := by simp [inB]; omega
  have hb : regB (setKind g) n = true := by rw [regB, hi, hz]; simp
  rw [hb, hz]
  by_cases h1 : 1 ≤ g ∧ g ≤ 8
  · have e1 : setB g = true := by simp [setB, inB, h1.1, h1.2]
    have e2 : inB g 0 8 = true := by simp [inB]; omega
    simp [e1, e2]
  · have e1 : setB g = false := by simp [setB, inB]; omega
    by_cases h6 : g = 0
    · subst h6; decide
    · have e2 : inB g 0 8 = false := by simp [inB]; omega
      have e4 : ¬ (0 : Int) = g := by omega
      simp [e1, e2, e4]
theorem rI4 (x : St) (n : Nat) (hn : n < 4) : (rI x 4 n == stGet x n) = regOK x n := by
  unfold rI regOK rgB
  generalize stGet x n = g
  by_cases h0 : n = 0
  · subst h0
    have := reg_pure0 g
    simpa using this
  · have := reg_pureN g n h0 hn
    simp only [hn, true_and, if_neg h0]
    exact this

theorem regs_eq (x : St) : ((rI x 4 0 == x.g0) && ((rI x 4 1 == x.g1) && ((rI x 4 2 == x.g2) && (rI x 4 3 == x.g3)))) = regsOK x := by
  unfold regsOK
  have h0 := rI4 x 0 (by decide)
  have h1 := rI4 x 1 (by decide)
  have h2 := rI4 x 2 (by decide)
  have h3 := rI4 x 3 (by decide)
  have g0 : stGet x ((0 : Nat) : Int) = x.g0 := rfl
  have g1 : stGet x ((1 : Nat) : Int) = x.g1 := rfl
  have g2 : stGet x ((2 : Nat) : Int) = x.g2 := rfl
  have g3 : stGet x ((3 : Nat) : Int) = x.g3 := rfl
  rw [g0] at h0
  rw [g1] at h1
  rw [g2] at h2
  rw [g3] at h3
  rw [h0, h1, h2, h3]
  rfl

/-- Two arrays of four ints compared. -/
theorem equal4 (d : Nat) (a0 a1 a2 a3 b0 b1 b2 b3 : Int) (w : World) : (Op.equalIn (d + 2) 67 (.agg #[.int .i64 a0, .int .i64 a1, .int .i64 a2, .int .i64 a3]) (.agg #[.int .i64 b0, .int .i64 b1, .int .i64 b2, .int .i64 b3])).run Tryd.prog w = .ok ((a0 == b0) && ((a1 == b1) && ((a2 == b2) && (a3 == b3)))) w := by
  have hsz : ∀ w, (sizeOf 3).run Tryd.prog w = .ok 1 w := fun w => by kernel_rfl
  have he := Tryd.underlying3
  have q : ∀ (x y : Int), (Op.equalIn (d + 1) 3 (.int .i64 x) (.int .i64 y)).run Tryd.prog w = .ok (x == y) w := fun x y => run_equalIn_int w d 3 .i64 .i64 x y he
  have p : ∀ (i : Nat) (xs : Array Value) (v : Value), xs[i]? = some v → (part 3 xs i).run Tryd.prog w = .ok v w := fun i xs v h => by
    simp [part, isAgg, run_underlying he, h]
  rw [Op.equalIn]
  simp only [Sem.run_bind, run_underlying Tryd.underlying67, Result.andThen_ok, hsz, Std.Legacy.Range.forIn_eq_forIn_range', Std.Legacy.Range.size, Nat.sub_zero, Nat.add_sub_cancel, Nat.div_one]
  rw [show List.range' 0 4 1 = [0, 1, 2, 3] from rfl]
  simp only [List.forIn_cons, Sem.run_bind, Nat.mul_one]
  have x0 := p 0 #[.int .i64 a0, .int .i64 a1, .int .i64 a2, .int .i64 a3] _ rfl
  have y0 := p 0 #[.int .i64 b0, .int .i64 b1, .int .i64 b2, .int .i64 b3] _ rfl
  have q0 := q a0 b0
  have x1 := p 1 #[.int .i64 a0, .int .i64 a1, .int .i64 a2, .int .i64 a3] _ rfl
  have y1 := p 1 #[.int .i64 b0, .int .i64 b1, .int .i64 b2, .int .i64 b3] _ rfl
  have q1 := q a1 b1
  have x2 := p 2 #[.int .i64 a0, .int .i64 a1, .int .i64 a2, .int .i64 a3] _ rfl
  have y2 := p 2 #[.int .i64 b0, .int .i64 b1, .int .i64 b2, .int .i64 b3] _ rfl
  have q2 := q a2 b2
  have x3 := p 3 #[.int .i64 a0, .int .i64 a1, .int .i64 a2, .int .i64 a3] _ rfl
  have y3 := p 3 #[.int .i64 b0, .int .i64 b1, .int .i64 b2, .int .i64 b3] _ rfl
  have q3 := q a3 b3
  generalize (a0 == b0) = c0 at q0 ⊢
  generalize (a1 == b1) = c1 at q1 ⊢
  generalize (a2 == b2) = c2 at q2 ⊢
  generalize (a3 == b3) = c3 at q3 ⊢
  cases c0
  · simp [x0, y0, q0]
  cases c1
  · simp [x0, y0, q0, x1, y1, q1]
  cases c2
  · simp [x0, y0, q0, x1, y1, q1, x2, y2, q2]
  cases c3
  · simp [x0, y0, q0, x1, y1, q1, x2, y2, q2, x3, y3, q3]
  · simp [x0, y0, q0, x1, y1, q1, x2, y2, q2, x3, y3, q3]

set_option maxHeartbeats 4000000 in
set_option maxRecDepth 100000 in
theorem impl_regsOK (x : St) (b : Nat) (w : World) (h : MAt w b x) (ht : TabM w) : Calls Tryd.prog 80 #[.pointer (some ⟨b, 0, none⟩)] w fun e w' => e = .returned (.bool (regsOK x)) ∧ Below w.heap.size w w' := by
  have HM := Lib.hid h
  have HT := Lib.hid ht
  have hbl : b < w.heap.size := h.lt
  have HR0 := Lib.hid (RAt.new w x)
  have B0 := Lib.hid (below_one w (.cells #[.int .i64 1, .int .i64 0, .int .i64 0, .int .i64 0] 67))
  clear h ht
  go_enter Tryd.func80, Tryd.ntmps80
  go_wp2
  generalize w.alloc (.cells #[.int .i64 1, .int .i64 0, .int .i64 0, .int .i64 0] 67) = w0 at *
  go_loopw [8] (fun i wr => ∃ j : Nat, j ≤ 4 ∧ i = .int .i64 j ∧ Hid (RAt wr w.heap.size x j) ∧ Hid (Below w.heap.size w wr)) (fun i _ => 4 - (intOf i).toNat)
  case atStart => exact ⟨0, by omega, rfl, HR0, B0⟩
  case round =>
    obtain ⟨j, hj, rfl, HR, BW⟩ := hrel
    by_cases hlt : j < 4
    · have HTr := Lib.hid (HT.out.keep BW.out)
      have HMr := Lib.hid (HM.out.keep BW.out)
      clear HM HT HR0 B0
      have hsz : w.heap.size < wr.heap.size := HR.out.lt
      have HG0 : Hid (∀ n, stGet x n = if n = 0 then x.g0 else if n = 1 then x.g1 else if n = 2 then x.g2 else x.g3) := Lib.hid (fun _ => rfl)
      have : j = 0 ∨ j = 1 ∨ j = 2 ∨ j = 3 := by omega
      rcases this with rfl | rfl | rfl | rfl
      · have ⟨y0, y1, y2, y3, y4, y5, y6⟩ := HMr.out.cells
        have HV : Hid (stGet x ((0 : Nat) : Int) = x.g0) := Lib.hid rfl
        go_wp2
        go_quiet (fail)
        have HR1 : Hid (RAt (wr.drewN nq) w.heap.size x 0) := Lib.hid HR.out
        have B1 : Hid (Below w.heap.size w (wr.drewN nq)) := Lib.hid (below_drewN BW.out nq)
        have HT1 : Hid (TabM (wr.drewN nq)) := Lib.hid (HTr.out.keep (below_drewN (Below.refl _ _) nq))
        clear y0 y1 y2 y3 y4 y5 y6 HTr HMr HR BW hsz
        generalize wr.drewN nq = W1 at *
        cases hsb : setB x.g0
        · have HF : Hid (rgB x ((0 : Nat) : Int) = false) := Lib.hid (by rw [rgB, HV.out, hsb]; rfl)
          go_wp2_with fail
          refine (impl_isSet x.g0 W1).mono ?_
          rintro e w2 ⟨rfl, rfl⟩
          rw [hsb]
          go_wp2
          go_roundw
          case rel => exact ⟨0 + 1, by decide, rfl, Lib.hid (HR1.out.skip HF.out), B1⟩
          case measure => decide
        · obtain ⟨k, hk, k1, k8⟩ := setB_nat hsb
          have c1 := (HT1.out.1 k k1 k8).2.1
          have u1 : (0 : Int) ≤ (k : Int) := by omega
          have u2 : (k : Int) < 9 := by omega
          have HX := Lib.hid hk
          have HS := Lib.hid (fun w => impl_isSet x.g0 w)
          rw [hsb] at HS
          cases hrb : regB (setKind x.g0) 0
          · have HF : Hid (rgB x ((0 : Nat) : Int) = false) := Lib.hid (by rw [rgB, HV.out, hsb]; exact hrb)
            have HP := Lib.hid (fun w => impl_isRegisterFor (setKind x.g0) 0 w)
            rw [hrb] at HP
            rw [← hk] at c1 u1 u2
            clear hk hsb hrb
            go_wp2_with fail
            refine (HS.out W1).mono ?_
            rintro e w2 ⟨rfl, rfl⟩
            rw [HX.out] at c1 u1 u2 HP ⊢
            go_wp2_with fail
            refine (HP.out W1).mono ?_
            rintro e w2 ⟨rfl, rfl⟩
            go_wp2
            go_roundw
            case rel => exact ⟨0 + 1, by decide, rfl, Lib.hid (HR1.out.skip HF.out), B1⟩
            case measure => decide
          · have HF : Hid (rgB x ((0 : Nat) : Int) = true) := Lib.hid (by rw [rgB, HV.out, hsb]; exact hrb)
            have HP := Lib.hid (fun w => impl_isRegisterFor (setKind x.g0) 0 w)
            rw [hrb] at HP
            rw [← hk] at c1 u1 u2
            clear hk hsb hrb
            have HZ : Hid (RAt (W1.setCell ⟨w.heap.size, 0, none⟩ (.int .i64 x.g0)) w.heap.size x (0 + 1)) := Lib.hid (by
              have := HR1.out.put (by decide) HF.out
              rw [HV.out] at this
              exact this)
            have ⟨r0, r1, r2, r3⟩ := HR1.out.cells
            have ⟨z0, z1, z2, z3⟩ := HR1.out.thaw
            have hl1 : w.heap.size < W1.heap.size := HR1.out.lt
            go_wp2_with fail
            refine (HS.out W1).mono ?_
            rintro e w2 ⟨rfl, rfl⟩
            rw [HX.out] at c1 u1 u2 HP HZ ⊢
            go_wp2_with fail
            refine (HP.out W1).mono ?_
            rintro e w2 ⟨rfl, rfl⟩
            go_wp2
            go_roundw
            case rel => exact ⟨0 + 1, by decide, rfl, HZ, Lib.hid (B1.out.setCell (Nat.le_refl _) _)⟩
            case measure => decide
      · have ⟨y0, y1, y2, y3, y4, y5, y6⟩ := HMr.out.cells
        have HV : Hid (stGet x ((1 : Nat) : Int) = x.g1) := Lib.hid rfl
        go_wp2
        go_quiet (fail)
        have HR1 : Hid (RAt (wr.drewN nq) w.heap.size x 1) := Lib.hid HR.out
        have B1 : Hid (Below w.heap.size w (wr.drewN nq)) := Lib.hid (below_drewN BW.out nq)
        have HT1 : Hid (TabM (wr.drewN nq)) := Lib.hid (HTr.out.keep (below_drewN (Below.refl _ _) nq))
        clear y0 y1 y2 y3 y4 y5 y6 HTr HMr HR BW hsz
        generalize wr.drewN nq = W1 at *
        cases hsb : setB x.g1
        · have HF : Hid (rgB x ((1 : Nat) : Int) = false) := Lib.hid (by rw [rgB, HV.out, hsb]; rfl)
          go_wp2_with fail
          refine (impl_isSet x.g1 W1).mono ?_
          rintro e w2 ⟨rfl, rfl⟩
          rw [hsb]
          go_wp2
          go_roundw
          case rel => exact ⟨1 + 1, by decide, rfl, Lib.hid (HR1.out.skip HF.out), B1⟩
          case measure => decide
        · obtain ⟨k, hk, k1, k8⟩ := setB_nat hsb
          have c1 := (HT1.out.1 k k1 k8).2.1
          have u1 : (0 : Int) ≤ (k : Int) := by omega
          have u2 : (k : Int) < 9 := by omega
          have HX := Lib.hid hk
          have HS := Lib.hid (fun w => impl_isSet x.g1 w)
          rw [hsb] at HS
          cases hrb : regB (setKind x.g1) 1
          · have HF : Hid (rgB x ((1 : Nat) : Int) = false) := Lib.hid (by rw [rgB, HV.out, hsb]; exact hrb)
            have HP := Lib.hid (fun w => impl_isRegisterFor (setKind x.g1) 1 w)
            rw [hrb] at HP
            rw [← hk] at c1 u1 u2
            clear hk hsb hrb
            go_wp2_with fail
            refine (HS.out W1).mono ?_
            rintro e w2 ⟨rfl, rfl⟩
            rw [HX.out] at c1 u1 u2 HP ⊢
            go_wp2_with fail
            refine (HP.out W1).mono ?_
            rintro e w2 ⟨rfl, rfl⟩
            go_wp2
            go_roundw
            case rel => exact ⟨1 + 1, by decide, rfl, Lib.hid (HR1.out.skip HF.out), B1⟩
            case measure => decide
          · have HF : Hid (rgB x ((1 : Nat) : Int) = true) := Lib.hid (by rw [rgB, HV.out, hsb]; exact hrb)
            have HP := Lib.hid (fun w => impl_isRegisterFor (setKind x.g1) 1 w)
            rw [hrb] at HP
            rw [← hk] at c1 u1 u2
            clear hk hsb hrb
            have HZ : Hid (RAt (W1.setCell ⟨w.heap.size, 1, none⟩ (.int .i64 x.g1)) w.heap.size x (1 + 1)) := Lib.hid (by
              have := HR1.out.put (by decide) HF.out
              rw [HV.out] at this
              exact this)
            have ⟨r0, r1, r2, r3⟩ := HR1.out.cells
            have ⟨z0, z1, z2, z3⟩ := HR1.out.thaw
            have hl1 : w.heap.size < W1.heap.size := HR1.out.lt
            go_wp2_with fail
            refine (HS.out W1).mono ?_
            rintro e w2 ⟨rfl, rfl⟩
            rw [HX.out] at c1 u1 u2 HP HZ ⊢
            go_wp2_with fail
            refine (HP.out W1).mono ?_
            rintro e w2 ⟨rfl, rfl⟩
            go_wp2
            go_roundw
            case rel => exact ⟨1 + 1, by decide, rfl, HZ, Lib.hid (B1.out.setCell (Nat.le_refl _) _)⟩
            case measure => decide
      · have ⟨y0, y1, y2, y3, y4, y5, y6⟩ := HMr.out.cells
        have HV : Hid (stGet x ((2 : Nat) : Int) = x.g2) := Lib.hid rfl
        go_wp2
        go_quiet (fail)
        have HR1 : Hid (RAt (wr.drewN nq) w.heap.size x 2) := Lib.hid HR.out
        have B1 : Hid (Below w.heap.size w (wr.drewN nq)) := Lib.hid (below_drewN BW.out nq)
        have HT1 : Hid (TabM (wr.drewN nq)) := Lib.hid (HTr.out.keep (below_drewN (Below.refl _ _) nq))
        clear y0 y1 y2 y3 y4 y5 y6 HTr HMr HR BW hsz
        generalize wr.drewN nq = W1 at *
        cases hsb : setB x.g2
        · have HF : Hid (rgB x ((2 : Nat) : Int) = false) := Lib.hid (by rw [rgB, HV.out, hsb]; rfl)
          go_wp2_with fail
          refine (impl_isSet x.g2 W1).mono ?_
          rintro e w2 ⟨rfl, rfl⟩
          rw [hsb]
          go_wp2
          go_roundw
          case rel => exact ⟨2 + 1, by decide, rfl, Lib.hid (HR1.out.skip HF.out), B1⟩
          case measure => decide
        · obtain ⟨k, hk, k1, k8⟩ := setB_nat hsb
          have c1 := (HT1.out.1 k k1 k8).2.1
          have u1 : (0 : Int) ≤ (k : Int) := by omega
          have u2 : (k : Int) < 9 := by omega
          have HX := Lib.hid hk
          have HS := Lib.hid (fun w => impl_isSet x.g2 w)
          rw [hsb] at HS
          cases hrb : regB (setKind x.g2) 2
          · have HF : Hid (rgB x ((2 : Nat) : Int) = false) := Lib.hid (by rw [rgB, HV.out, hsb]; exact hrb)
            have HP := Lib.hid (fun w => impl_isRegisterFor (setKind x.g2) 2 w)
            rw [hrb] at HP
            rw [← hk] at c1 u1 u2
            clear hk hsb hrb
            go_wp2_with fail
            refine (HS.out W1).mono ?_
            rintro e w2 ⟨rfl, rfl⟩
            rw [HX.out] at c1 u1 u2 HP ⊢
            go_wp2_with fail
            refine (HP.out W1).mono ?_
            rintro e w2 ⟨rfl, rfl⟩
            go_wp2
            go_roundw
            case rel => exact ⟨2 + 1, by decide, rfl, Lib.hid (HR1.out.skip HF.out), B1⟩
            case measure => decide
          · have HF : Hid (rgB x ((2 : Nat) : Int) = true) := Lib.hid (by rw [rgB, HV.out, hsb]; exact hrb)
            have HP := Lib.hid (fun w => impl_isRegisterFor (setKind x.g2) 2 w)
            rw [hrb] at HP
            rw [← hk] at c1 u1 u2
            clear hk hsb hrb
            have HZ : Hid (RAt (W1.setCell ⟨w.heap.size, 2, none⟩ (.int .i64 x.g2)) w.heap.size x (2 + 1)) := Lib.hid (by
              have := HR1.out.put (by decide) HF.out
              rw [HV.out] at this
              exact this)
            have ⟨r0, r1, r2, r3⟩ := HR1.out.cells
            have ⟨z0, z1, z2, z3⟩ := HR1.out.thaw
            have hl1 : w.heap.size < W1.heap.size := HR1.out.lt
            go_wp2_with fail
            refine (HS.out W1).mono ?_
            rintro e w2 ⟨rfl, rfl⟩
            rw [HX.out] at c1 u1 u2 HP HZ ⊢
            go_wp2_with fail
            refine (HP.out W1).mono ?_
            rintro e w2 ⟨rfl, rfl⟩
            go_wp2
            go_roundw
            case rel => exact ⟨2 + 1, by decide, rfl, HZ, Lib.hid (B1.out.setCell (Nat.le_refl _) _)⟩
            case measure => decide
      · have ⟨y0, y1, y2, y3, y4, y5, y6⟩ := HMr.out.cells
        have HV : Hid (stGet x ((3 : Nat) : Int) = x.g3) := Lib.hid rfl
        go_wp2
        go_quiet (fail)
        have HR1 : Hid (RAt (wr.drewN nq) w.heap.size x 3) := Lib.hid HR.out
        have B1 : Hid (Below w.heap.size w (wr.drewN nq)) := Lib.hid (below_drewN BW.out nq)
        have HT1 : Hid (TabM (wr.drewN nq)) := Lib.hid (HTr.out.keep (below_drewN (Below.refl _ _) nq))
        clear y0 y1 y2 y3 y4 y5 y6 HTr HMr HR BW hsz
        generalize wr.drewN nq = W1 at *
        cases hsb : setB x.g3
        · have HF : Hid (rgB x ((3 : Nat) : Int) = false) := Lib.hid (by rw [rgB, HV.out, hsb]; rfl)
          go_wp2_with fail
          refine (impl_isSet x.g3 W1).mono ?_
          rintro e w2 ⟨rfl, rfl⟩
          rw [hsb]
          go_wp2
          go_roundw
          case rel => exact ⟨3 + 1, by decide, rfl, Lib.hid (HR1.out.skip HF.out), B1⟩
          case measure => decide
        · obtain ⟨k, hk, k1, k8⟩ := setB_nat hsb
          have c1 := (HT1.out.1 k k1 k8).2.1
          have u1 : (0 : Int) ≤ (k : Int) := by omega
          have u2 : (k : Int) < 9 := by omega
          have HX := Lib.hid hk
          have HS := Lib.hid (fun w => impl_isSet x.g3 w)
          rw [hsb] at HS
          cases hrb : regB (setKind x.g3) 3
          · have HF : Hid (rgB x ((3 : Nat) : Int) = false) := Lib.hid (by rw [rgB, HV.out, hsb]; exact hrb)
            have HP := Lib.hid (fun w => impl_isRegisterFor (setKind x.g3) 3 w)
            rw [hrb] at HP
            rw [← hk] at c1 u1 u2
            clear hk hsb hrb
            go_wp2_with fail
            refine (HS.out W1).mono ?_
            rintro e w2 ⟨rfl, rfl⟩
            rw [HX.out] at c1 u1 u2 HP ⊢
            go_wp2_with fail
            refine (HP.out W1).mono ?_
            rintro e w2 ⟨rfl, rfl⟩
            go_wp2
            go_roundw
            case rel => exact ⟨3 + 1, by decide, rfl, Lib.hid (HR1.out.skip HF.out), B1⟩
            case measure => decide
          · have HF : Hid (rgB x ((3 : Nat) : Int) = true) := Lib.hid (by rw [rgB, HV.out, hsb]; exact hrb)
            have HP := Lib.hid (fun w => impl_isRegisterFor (setKind x.g3) 3 w)
            rw [hrb] at HP
            rw [← hk] at c1 u1 u2
            clear hk hsb hrb
            have HZ : Hid (RAt (W1.setCell ⟨w.heap.size, 3, none⟩ (.int .i64 x.g3)) w.heap.size x (3 + 1)) := Lib.hid (by
              have := HR1.out.put (by decide) HF.out
              rw [HV.out] at this
              exact this)
            have ⟨r0, r1, r2, r3⟩ := HR1.out.cells
            have ⟨z0, z1, z2, z3⟩ := HR1.out.thaw
            have hl1 : w.heap.size < W1.heap.size := HR1.out.lt
            go_wp2_with fail
            refine (HS.out W1).mono ?_
            rintro e w2 ⟨rfl, rfl⟩
            rw [HX.out] at c1 u1 u2 HP HZ ⊢
            go_wp2_with fail
            refine (HP.out W1).mono ?_
            rintro e w2 ⟨rfl, rfl⟩
            go_wp2
            go_roundw
            case rel => exact ⟨3 + 1, by decide, rfl, HZ, Lib.hid (B1.out.setCell (Nat.le_refl _) _)⟩
            case measure => decide
    · obtain rfl : j = 4 := by omega
      have ⟨y0, y1, y2, y3, y4, y5, y6⟩ := (HM.out.keep BW.out).cells
      have ⟨r0, r1, r2, r3⟩ := HR.out.cells
      have HE := Lib.hid (regs_eq x)
      have E4 := fun w => equal4 9998 (rI x 4 0) (rI x 4 1) (rI x 4 2) (rI x 4 3) x.g0 x.g1 x.g2 x.g3 w
      have G4 : Tryd.prog.eqGuardType Tryd.prog.depth 67 = false := by kernel_rfl
      rw [HE.out] at E4
      go_wp2
      go_quiet (fail)
      go_wp2
      go_ret
      exact ⟨rfl, below_drewN BW.out _⟩

end Go.Proofs.YtibadnfagoehmaaDoor

namespace Go.Proofs.YtibadnfagoehmaaDoor
open Go.RowKit Go.Sort

theorem impl_isRegister (n : Int) (w : World) : Calls Tryd.prog 56 #[.int .i64 n] w fun e w' => e = .returned (.bool (inB n 0 3)) ∧ w = w' := by
  by_cases h1 : 0 ≤ n
  · by_cases h3 : n ≤ 3
    all_goals
      have HF := Lib.hid (show inB n 0 3 = decide (n ≤ 3) by simp [inB, h1])
      go_enter Tryd.func56, Tryd.ntmps56
      go_wp2
      go_ret
      exact ⟨ret_bool (by rw [HF.out]; simp [h3]), rfl⟩
  · have HF := Lib.hid (show inB n 0 3 = false by simp [inB, h1])
    go_enter Tryd.func56, Tryd.ntmps56
    go_wp2
    go_ret
    exact ⟨ret_bool HF.out.symm, rfl⟩

theorem impl_isSingle (n : Int) (w : World) : Calls Tryd.prog 81 #[.int .i64 n] w fun e w' => e = .returned (.bool (inB n 2 3)) ∧ w = w' := by
  by_cases h1 : n = 2
  · subst h1
    go_enter Tryd.func81, Tryd.ntmps81
    go_wp2
    go_ret
    exact ⟨rfl, rfl⟩
  · have e1 : (n == 2) = false := by simpa using h1
    have HX : Hid ((n == 3) = inB n 2 3) := Lib.hid (by
      by_cases h3 : n = 3
      · subst h3; rfl
      · have : inB n 2 3 = false := by simp [inB]; omega
        rw [this]; simpa using h3)
    clear h1
    go_enter Tryd.func81, Tryd.ntmps81
    go_wp2
    go_ret
    exact ⟨ret_bool HX.out, rfl⟩

theorem regs_range {x : St} (h : regsOK x = true) : (0 ≤ x.g0 ∧ x.g0 ≤ 8) ∧ (0 ≤ x.g1 ∧ x.g1 ≤ 8) ∧ (0 ≤ x.g2 ∧ x.g2 ≤ 8) ∧ (0 ≤ x.g3 ∧ x.g3 ≤ 8) := by
  simp only [regsOK, Bool.and_eq_true] at h
  obtain ⟨h0, h1, h2, h3⟩ := h
  unfold regOK at h0 h1 h2 h3
  rw [Bool.and_eq_true] at h0 h1 h2 h3
  exact ⟨inB_true h0.1, inB_true h1.1, inB_true h2.1, inB_true h3.1⟩
theorem setAt_range {x : St} (h : regsOK x = true) (r : Bool) : 0 ≤ setAt x r ∧ setAt x r ≤ 8 := by
  obtain ⟨h0, h1, h2, h3⟩ := regs_range h
  unfold setAt stGet
  repeat' split
  all_goals assumption
theorem setAt_nat {x : St} (h : regsOK x = true) (r : Bool) : ∃ k : Nat, setAt x r = (k : Int) ∧ k ≤ 8 := by
  have ⟨a, b⟩ := setAt_range h r
  exact ⟨(setAt x r).toNat, by omega, by omega⟩

/-- The first byte of a pair, as the program asks. -/
def leadI (x : St) : Bool := decide (x.d = 0) || (inB (x.d - halfN x.d) 33 126 && (kind0 (setAt x (halfN x.d == 128)) == 3))
theorem leadI_eq {x : St} (hr : regsOK x = true) : leadI x = leadOK x := by
  unfold leadI leadOK
  by_cases h0 : x.d = 0
  · simp [h0]
  have e0 : decide (x.d = 0) = false := by simpa using h0
  rw [e0, Bool.false_or, Bool.false_or]
  by_cases h1 : 33 ≤ x.d ∧ x.d ≤ 126
  · have hh : halfN x.d = 0 := by unfold halfN; rw [if_neg (by omega)]
    have hm : x.d.tmod 128 = x.d := by rw [Int.tmod_eq_emod_of_nonneg (by omega)]; omega
    have hd : decide (128 < x.d) = false := decide_eq_false (by omega)
    have e1 : inB x.d 33 126 = true := by simp [inB, h1.1, h1.2]
    have e2 : inB x.d 33 254 = true := by simp [inB]; omega
    rw [hh, hm, hd, Int.sub_zero, e1, e2, Bool.true_and, Bool.true_and, Bool.true_and]
    have := setAt_range hr false
    show (kind0 (setAt x false) == 3) = (decide (0 < setAt x false) && decide (setKind (setAt x false) = 3))
    generalize setAt x false = q at *
    unfold kind0
    by_cases hq : q = 0
    · subst hq; rfl
    · have : 0 < q := by omega
      simp [hq, this]
      rfl
  by_cases h2 : 161 ≤ x.d ∧ x.d ≤ 254
  · have hh : halfN x.d = 128 := by unfold halfN; rw [if_pos (by omega)]
    have hm : x.d.tmod 128 = x.d - 128 := by rw [Int.tmod_eq_emod_of_nonneg (by omega)]; omega
    have hd : decide (128 < x.d) = true := decide_eq_true (by omega)
    have e1 : inB (x.d - 128) 33 126 = true := by simp [inB]; omega
    have e2 : inB x.d 33 254 = true := by simp [inB]; omega
    rw [hh, hm, hd, e1, e2, Bool.true_and, Bool.true_and, Bool.true_and]
    have := setAt_range hr true
    show (kind0 (setAt x true) == 3) = (decide (0 < setAt x true) && decide (setKind (setAt x true) = 3))
    generalize setAt x true = q at *
    unfold kind0
    by_cases hq : q = 0
    · subst hq; rfl
    · have : 0 < q := by omega
      simp [hq, this]
      rfl
  have e1 : inB (x.d - halfN x.d) 33 126 = false := by
    apply inB_false_of
    unfold halfN
    split <;> omega
  rw [e1, Bool.false_and]
  by_cases h3 : inB x.d 33 254 = true
  · have ⟨a, b⟩ := inB_true h3
    have : inB (x.d.tmod 128) 33 126 = false := by
      apply inB_false_of
      rw [Int.tmod_eq_emod_of_nonneg (by omega)]
      omega
    rw [this]; rfl
  · have : inB x.d 33 254 = false := by simpa using h3
    rw [this]
    cases inB (x.d.tmod 128) 33 126 <;> rfl

set_option maxHeartbeats 1000000 in
set_option maxRecDepth 100000 in
theorem impl_leadOK (x : St) (b : Nat) (w : World) (h : MAt w b x) (ht : TabM w) (hr : regsOK x = true) (hh : headOK x = true) (hl : -9223372036854775808 ≤ x.d) (hu : x.d ≤ 9223372036854775807) : Calls Tryd.prog 82 #[.pointer (some ⟨b, 0, none⟩)] w fun e w' => e = .returned (.bool (leadOK x)) ∧ Below w.heap.size w w' := by
  rw [← leadI_eq hr]
  have HL : Hid (leadI x = (decide (x.d = 0) || (inB (x.d - halfN x.d) 33 126 && (kind0 (setAt x (halfN x.d == 128)) == 3)))) := Lib.hid rfl
  have ⟨y0, y1, y2, y3, y4, y5, y6⟩ := h.cells
  by_cases d0 : x.d = 0
  · have HE : Hid (leadI x = true) := Lib.hid (by rw [HL.out]; simp [d0])
    rw [d0] at y6
    clear h ht hr hh hl hu HL
    go_enter Tryd.func82, Tryd.ntmps82
    go_wp2
    go_ret
    exact ⟨ret_bool HE.out.symm, Below.refl _ _⟩
  have ed : (x.d == 0) = false := by simpa using d0
  have HH := Lib.hid (impl_halfOf x.d w)
  have HD : Hid (leadI x = (inB (x.d - halfN x.d) 33 126 && (kind0 (setAt x (halfN x.d == 128)) == 3))) := Lib.hid (by rw [HL.out]; simp [d0])
  have hv : halfN x.d = 0 ∨ halfN x.d = 128 ∧ 128 ≤ x.d := by
    unfold halfN
    split
    · next h => exact .inr ⟨rfl, h⟩
    · exact .inl rfl
  have HS := Lib.hid (fun w h => impl_setFor x b (halfN x.d) w h hh)
  obtain ⟨k, hk, k8⟩ := setAt_nat hr (halfN x.d == 128)
  rw [hk] at HS HD
  clear hk HL hh hr d0
  generalize halfN x.d = hf at *
  have um : IntKind.i64.wrap (x.d - hf) = x.d - hf := IntWalk.i64_in _ (by omega)
  have HM := Lib.hid h
  have HT := Lib.hid ht
  clear h ht hl hu hv
  go_enter Tryd.func82, Tryd.ntmps82
  go_wp2_with fail
  refine HH.out.mono ?_
  rintro e w1 ⟨rfl, rfl⟩
  cases hc : inB (x.d - hf) 33 126
  · have HE : Hid (leadI x = false) := Lib.hid (by rw [HD.out, hc]; rfl)
    go_wp2_with fail
    refine (impl_isCode94 (x.d - hf) w).mono ?_
    rintro e w1 ⟨rfl, rfl⟩
    rw [hc]
    go_wp2
    go_ret
    exact ⟨ret_bool HE.out.symm, Below.refl _ _⟩
  · go_wp2_with fail
    refine (impl_isCode94 (x.d - hf) w).mono ?_
    rintro e w1 ⟨rfl, rfl⟩
    rw [hc]
    go_wp2_with fail
    refine (HS.out w HM.out).mono ?_
    rintro e w2 ⟨rfl, b2⟩
    have c1 := (HT.out.keep b2).kind k k8
    have u1 : (0 : Int) ≤ (k : Int) := by omega
    have u2 : (k : Int) < 9 := by omega
    have HE : Hid (leadI x = (kind0 k == 3)) := Lib.hid (by rw [HD.out, hc]; rfl)
    clear y0 y1 y2 y3 y4 y5 y6
    generalize kind0 (k : Int) = kd at *
    go_wp2
    go_ret
    exact ⟨ret_bool HE.out.symm, b2⟩

theorem head_split (x : St) : stOKB x = (regsOK x && ((inB x.l 0 3 && (decide (x.s = 0) || inB x.s 2 3)) && leadOK x)) := rfl

set_option maxHeartbeats 1000000 in
set_option maxRecDepth 100000 in
theorem impl_ok (x : St) (b : Nat) (w : World) (h : MAt w b x) (ht : TabM w) (hl : -9223372036854775808 ≤ x.d) (hu : x.d ≤ 9223372036854775807) : Calls Tryd.prog 41 #[.pointer (some ⟨b, 0, none⟩)] w fun e w' => e = .returned (.bool (stOKB x)) ∧ Below w.heap.size w w' := by
  have HO := Lib.hid (head_split x)
  have HR := Lib.hid (impl_regsOK x b w h ht)
  have HD := Lib.hid (fun w h ht hr hh => impl_leadOK x b w h ht hr hh hl hu)
  have HM := Lib.hid h
  have HT := Lib.hid ht
  have HH : Hid (headOK x = (inB x.l 0 3 && (decide (x.s = 0) || inB x.s 2 3))) := Lib.hid rfl
  clear h ht hl hu
  cases hr : regsOK x
  · have HE : Hid (stOKB x = false) := Lib.hid (by rw [HO.out, hr]; rfl)
    rw [hr] at HR
    go_enter Tryd.func41, Tryd.ntmps41
    go_wp2_with fail
    refine HR.out.mono ?_
    rintro e w1 ⟨rfl, b1⟩
    go_wp2
    go_ret
    exact ⟨ret_bool HE.out.symm, b1⟩
  rw [hr] at HR
  go_enter Tryd.func41, Tryd.ntmps41
  go_wp2_with fail
  refine HR.out.mono ?_
  rintro e w1 ⟨rfl, b1⟩
  have HM1 := Lib.hid (HM.out.keep b1)
  have HT1 := Lib.hid (HT.out.keep b1)
  have B1 := Lib.hid b1
  have ⟨y0, y1, y2, y3, y4, y5, y6⟩ := HM1.out.cells
  clear HR HM HT b1
  cases h1 : inB x.l 0 3
  · have HE : Hid (stOKB x = false) := Lib.hid (by rw [HO.out, hr, h1]; rfl)
    have HI := Lib.hid (fun w => impl_isRegister x.l w)
    rw [h1] at HI
    go_wp2_with fail
    refine (HI.out w1).mono ?_
    rintro e w2 ⟨rfl, rfl⟩
    go_wp2
    go_ret
    exact ⟨ret_bool HE.out.symm, B1.out⟩
  have HI := Lib.hid (fun w => impl_isRegister x.l w)
  rw [h1] at HI
  go_wp2_with fail
  refine (HI.out w1).mono ?_
  rintro e w2 ⟨rfl, rfl⟩
  by_cases s0 : x.s = 0
  · have es : (x.s == 0) = true := by simpa using s0
    have hh : headOK x = true := by rw [HH.out, h1, s0]; rfl
    have HE : Hid (stOKB x = leadOK x) := Lib.hid (by rw [HO.out, hr, h1, s0]; rfl)
    go_wp2_with fail
    refine (HD.out w1 HM1.out HT1.out hr hh).mono ?_
    rintro e w3 ⟨rfl, b3⟩
    have B3 : Below w.heap.size w w3 := B1.out.trans (b3.mono B1.out.size)
    clear y0 y1 y2 y3 y4 y5 y6 b3
    generalize leadOK x = lb at *
    go_wp2
    go_ret
    exact ⟨ret_bool HE.out.symm, B3⟩
  · have es : (x.s == 0) = false := by simpa using s0
    have es' : decide (x.s = 0) = false := by simpa using s0
    have HJ := Lib.hid (fun w => impl_isSingle x.s w)
    cases h2 : inB x.s 2 3
    · have HE : Hid (stOKB x = false) := Lib.hid (by rw [HO.out, hr, h1, h2, es']; rfl)
      rw [h2] at HJ
      go_wp2_with fail
      refine (HJ.out w1).mono ?_
      rintro e w2 ⟨rfl, rfl⟩
      go_wp2
      go_ret
      exact ⟨ret_bool HE.out.symm, B1.out⟩
    · have hh : headOK x = true := by rw [HH.out, h1, h2, es']; rfl
      have HE : Hid (stOKB x = leadOK x) := Lib.hid (by rw [HO.out, hr, h1, h2, es']; rfl)
      rw [h2] at HJ
      go_wp2_with fail
      refine (HJ.out w1).mono ?_
      rintro e w2 ⟨rfl, rfl⟩
      go_wp2_with fail
      refine (HD.out w1 HM1.out HT1.out hr hh).mono ?_
      rintro e w3 ⟨rfl, b3⟩
      have B3 : Below w.heap.size w w3 := B1.out.trans (b3.mono B1.out.size)
      clear y0 y1 y2 y3 y4 y5 y6 b3
      generalize leadOK x = lb at *
      go_wp2
      go_ret
      exact ⟨ret_bool HE.out.symm, B3⟩

/-- The ints of a state are 64-bit ints. -/
def Wide64 (x : St) : Prop := -9223372036854775808 ≤ x.d ∧ x.d ≤ 9223372036854775807

theorem MAt.new (w : World) (x : St) : MAt (w.alloc (.cells #[.int .i64 x.g0, .int .i64 x.g1, .int .i64 x.g2, .int .i64 x.g3, .int .i64 x.l, .int .i64 x.s, .int .i64 x.d] 69)) w.heap.size x := heap_alloc_new _ _

set_option maxHeartbeats 1000000 in
set_option maxRecDepth 100000 in
theorem impl_StateOK (x : St) (w : World) (ht : TabM w) (hw : Wide64 x) : Calls Tryd.prog 12 #[stV x] w fun e w' => e = .returned (.bool (stOKB x)) ∧ Below w.heap.size w w' := by
  have HF := Lib.hid (fun w => impl_machineOf x w)
  have HO := Lib.hid (fun b w h ht => impl_ok x b w h ht hw.1 hw.2)
  have HT := Lib.hid ht
  have B0 := Lib.hid (below_one w (.cells #[.int .i64 x.g0, .int .i64 x.g1, .int .i64 x.g2, .int .i64 x.g3, .int .i64 x.l, .int .i64 x.s, .int .i64 x.d] 24))
  clear ht hw
  unfold StDone stV at HF
  unfold stV
  generalize stOKB x = ok at *
  go_enter Tryd.func12, Tryd.ntmps12
  go_wp2_with fail
  refine (HF.out _).mono ?_
  rintro e w1 ⟨rfl, b1⟩
  have B1 : Hid (Below w.heap.size w w1) := Lib.hid (B0.out.trans (b1.mono B0.out.size))
  have B2 : Hid (Below w.heap.size w (w1.alloc (.cells #[.int .i64 x.g0, .int .i64 x.g1, .int .i64 x.g2, .int .i64 x.g3, .int .i64 x.l, .int .i64 x.s, .int .i64 x.d] 69))) := Lib.hid (B1.out.alloc B1.out.size _)
  have HM := Lib.hid (MAt.new w1 x)
  have HT2 := Lib.hid (HT.out.keep B2.out)
  clear b1
  go_wp2_with fail
  refine (HO.out w1.heap.size _ HM.out HT2.out).mono ?_
  rintro e w2 ⟨rfl, b2⟩
  have B3 : Below w.heap.size w w2 := B2.out.trans (b2.mono B2.out.size)
  go_wp2
  go_ret
  exact ⟨rfl, B3⟩

end Go.Proofs.YtibadnfagoehmaaDoor

namespace Go.Proofs.YtibadnfagoehmaaDoor
open Go.RowKit Go.Sort

theorem pend_eq {x : St} (h : stOKB x = true) : pendI x = pendB x := by
  obtain ⟨_, h2, h3⟩ := stOK_parts h
  have a := (head_parts h2).2
  have b := lead_range h3
  unfold pendI pendB
  have e1 : (x.s != 0) = decide (0 < x.s) := by
    rw [Bool.eq_iff_iff]; simp; omega
  have e2 : (x.d != 0) = decide (0 < x.d) := by
    rw [Bool.eq_iff_iff]; simp; omega
  rw [e1, e2]

set_option maxHeartbeats 1000000 in
set_option maxRecDepth 100000 in
theorem impl_Pending (x : St) (w : World) (ht : TabM w) (hw : Wide64 x) : Calls Tryd.prog 16 #[stV x] w fun e w' => e = .returned (.bool (peB x)) ∧ Below w.heap.size w w' := by
  have HF := Lib.hid (fun w => impl_machineOf x w)
  have HO := Lib.hid (fun b w h ht => impl_ok x b w h ht hw.1 hw.2)
  have HT := Lib.hid ht
  have B0 := Lib.hid (below_one w (.cells #[.int .i64 x.g0, .int .i64 x.g1, .int .i64 x.g2, .int .i64 x.g3, .int .i64 x.l, .int .i64 x.s, .int .i64 x.d] 24))
  clear ht hw
  unfold StDone stV at HF
  have HP := Lib.hid (fun b w h => impl_pending x b w h)
  unfold stV
  cases ho : stOKB x
  · have HE : Hid (peB x = false) := Lib.hid (by rw [peB, ho]; rfl)
    rw [ho] at HO
    go_enter Tryd.func16, Tryd.ntmps16
    go_wp2_with fail
    refine (HF.out _).mono ?_
    rintro e w1 ⟨rfl, b1⟩
    have B1 : Hid (Below w.heap.size w w1) := Lib.hid (B0.out.trans (b1.mono B0.out.size))
    have B2 : Hid (Below w.heap.size w (w1.alloc (.cells #[.int .i64 x.g0, .int .i64 x.g1, .int .i64 x.g2, .int .i64 x.g3, .int .i64 x.l, .int .i64 x.s, .int .i64 x.d] 69))) := Lib.hid (B1.out.alloc B1.out.size _)
    have HM := Lib.hid (MAt.new w1 x)
    have HT2 := Lib.hid (HT.out.keep B2.out)
    clear b1
    go_wp2_with fail
    refine (HO.out w1.heap.size _ HM.out HT2.out).mono ?_
    generalize w1.alloc (.cells #[.int .i64 x.g0, .int .i64 x.g1, .int .i64 x.g2, .int .i64 x.g3, .int .i64 x.l, .int .i64 x.s, .int .i64 x.d] 69) = W1 at *
    rintro e w2 ⟨rfl, b2⟩
    have B3 : Hid (Below w.heap.size w w2) := Lib.hid (B2.out.trans (b2.mono B2.out.size))
    have HM3 := Lib.hid (HM.out.keep b2)
    have HT3 := Lib.hid (HT2.out.keep b2)
    have hb3 : w1.heap.size < w2.heap.size := HM3.out.lt
    clear b2 B2 HM HT2
    go_wp2
    go_ret
    exact ⟨ret_bool HE.out.symm, B3.out⟩
  · have HE : Hid (peB x = pendI x) := Lib.hid (by rw [peB, ho, pend_eq ho]; rfl)
    rw [ho] at HO
    go_enter Tryd.func16, Tryd.ntmps16
    go_wp2_with fail
    refine (HF.out _).mono ?_
    rintro e w1 ⟨rfl, b1⟩
    have B1 : Hid (Below w.heap.size w w1) := Lib.hid (B0.out.trans (b1.mono B0.out.size))
    have B2 : Hid (Below w.heap.size w (w1.alloc (.cells #[.int .i64 x.g0, .int .i64 x.g1, .int .i64 x.g2, .int .i64 x.g3, .int .i64 x.l, .int .i64 x.s, .int .i64 x.d] 69))) := Lib.hid (B1.out.alloc B1.out.size _)
    have HM := Lib.hid (MAt.new w1 x)
    have HT2 := Lib.hid (HT.out.keep B2.out)
    clear b1
    go_wp2_with fail
    refine (HO.out w1.heap.size _ HM.out HT2.out).mono ?_
    generalize w1.alloc (.cells #[.int .i64 x.g0, .int .i64 x.g1, .int .i64 x.g2, .int .i64 x.g3, .int .i64 x.l, .int .i64 x.s, .int .i64 x.d] 69) = W1 at *
    rintro e w2 ⟨rfl, b2⟩
    have B3 : Hid (Below w.heap.size w w2) := Lib.hid (B2.out.trans (b2.mono B2.out.size))
    have HM3 := Lib.hid (HM.out.keep b2)
    have HT3 := Lib.hid (HT2.out.keep b2)
    have hb3 : w1.heap.size < w2.heap.size := HM3.out.lt
    clear b2 B2 HM HT2
    go_wp2_with fail
    refine (HP.out _ _ HM3.out).mono ?_
    rintro e w3 ⟨rfl, rfl⟩
    generalize pendI x = pv at *
    go_wp2
    go_ret
    exact ⟨ret_bool HE.out.symm, B3.out⟩

set_option maxHeartbeats 1000000 in
set_option maxRecDepth 100000 in
theorem impl_RegisterOf (x : St) (n : Int) (w : World) (ht : TabM w) (hw : Wide64 x) : Calls Tryd.prog 21 #[stV x, .int .i64 n] w fun e w' => e = .returned (rgoV x n) ∧ Below w.heap.size w w' := by
  have HF := Lib.hid (fun w => impl_machineOf x w)
  have HO := Lib.hid (fun b w h ht => impl_ok x b w h ht hw.1 hw.2)
  have HT := Lib.hid ht
  have B0 := Lib.hid (below_one w (.cells #[.int .i64 x.g0, .int .i64 x.g1, .int .i64 x.g2, .int .i64 x.g3, .int .i64 x.l, .int .i64 x.s, .int .i64 x.d] 24))
  clear ht hw
  unfold StDone stV at HF
  have HI := Lib.hid (fun w => impl_isRegister n w)
  unfold stV
  cases ho : stOKB x
  · have HE := Lib.hid (rgoV_bad (x := x) (n := n) (c := 1) (by simp [rgoC, ho]) (by decide))
    rw [ho] at HO
    go_enter Tryd.func21, Tryd.ntmps21
    go_wp2_with fail
    refine (HF.out _).mono ?_
    rintro e w1 ⟨rfl, b1⟩
    have B1 : Hid (Below w.heap.size w w1) := Lib.hid (B0.out.trans (b1.mono B0.out.size))
    have B2 : Hid (Below w.heap.size w (w1.alloc (.cells #[.int .i64 x.g0, .int .i64 x.g1, .int .i64 x.g2, .int .i64 x.g3, .int .i64 x.l, .int .i64 x.s, .int .i64 x.d] 69))) := Lib.hid (B1.out.alloc B1.out.size _)
    have HM := Lib.hid (MAt.new w1 x)
    have HT2 := Lib.hid (HT.out.keep B2.out)
    clear b1
    go_wp2_with fail
    refine (HO.out w1.heap.size _ HM.out HT2.out).mono ?_
    generalize w1.alloc (.cells #[.int .i64 x.g0, .int .i64 x.g1, .int .i64 x.g2, .int .i64 x.g3, .int .i64 x.l, .int .i64 x.s, .int .i64 x.d] 69) = W1 at *
    rintro e w2 ⟨rfl, b2⟩
    have B3 : Hid (Below w.heap.size w w2) := Lib.hid (B2.out.trans (b2.mono B2.out.size))
    have HM3 := Lib.hid (HM.out.keep b2)
    have HT3 := Lib.hid (HT2.out.keep b2)
    have hb3 : w1.heap.size < w2.heap.size := HM3.out.lt
    clear b2 B2 HM HT2
    go_wp2
    go_ret2
    exact ⟨ret_val HE.out.symm, B3.out⟩
  rw [ho] at HO
  cases hn : inB n 0 3
  · have HE := Lib.hid (rgoV_bad (x := x) (n := n) (c := 4) (by simp [rgoC, ho, hn]) (by decide))
    rw [hn] at HI
    go_enter Tryd.func21, Tryd.ntmps21
    go_wp2_with fail
    refine (HF.out _).mono ?_
    rintro e w1 ⟨rfl, b1⟩
    have B1 : Hid (Below w.heap.size w w1) := Lib.hid (B0.out.trans (b1.mono B0.out.size))
    have B2 : Hid (Below w.heap.size w (w1.alloc (.cells #[.int .i64 x.g0, .int .i64 x.g1, .int .i64 x.g2, .int .i64 x.g3, .int .i64 x.l, .int .i64 x.s, .int .i64 x.d] 69))) := Lib.hid (B1.out.alloc B1.out.size _)
    have HM := Lib.hid (MAt.new w1 x)
    have HT2 := Lib.hid (HT.out.keep B2.out)
    clear b1
    go_wp2_with fail
    refine (HO.out w1.heap.size _ HM.out HT2.out).mono ?_
    generalize w1.alloc (.cells #[.int .i64 x.g0, .int .i64 x.g1, .int .i64 x.g2, .int .i64 x.g3, .int .i64 x.l, .int .i64 x.s, .int .i64 x.d] 69) = W1 at *
    rintro e w2 ⟨rfl, b2⟩
    have B3 : Hid (Below w.heap.size w w2) := Lib.hid (B2.out.trans (b2.mono B2.out.size))
    have HM3 := Lib.hid (HM.out.keep b2)
    have HT3 := Lib.hid (HT2.out.keep b2)
    have hb3 : w1.heap.size < w2.heap.size := HM3.out.lt
    clear b2 B2 HM HT2
    go_wp2_with fail
    refine (HI.out _).mono ?_
    rintro e w3 ⟨rfl, rfl⟩
    go_wp2
    go_ret2
    exact ⟨ret_val HE.out.symm, B3.out⟩
  have HE := Lib.hid (rgoV_ok (x := x) (n := n) (by simp [rgoC, ho, hn]))
  rw [hn] at HI
  have ⟨n0, n3⟩ := inB_true hn
  have : n = 0 ∨ n = 1 ∨ n = 2 ∨ n = 3 := by omega
  clear hn n0 n3
  have HGT : Hid (stGet x 0 = x.g0 ∧ stGet x 1 = x.g1 ∧ stGet x 2 = x.g2 ∧ stGet x 3 = x.g3) := Lib.hid ⟨rfl, rfl, rfl, rfl⟩
  rcases this with rfl | rfl | rfl | rfl
  · have HE2 : Hid (rgoV x 0 = .tuple #[.int .i64 x.g0, .int .i64 0]) := Lib.hid HE.out
    go_enter Tryd.func21, Tryd.ntmps21
    go_wp2_with fail
    refine (HF.out _).mono ?_
    rintro e w1 ⟨rfl, b1⟩
    have B1 : Hid (Below w.heap.size w w1) := Lib.hid (B0.out.trans (b1.mono B0.out.size))
    have B2 : Hid (Below w.heap.size w (w1.alloc (.cells #[.int .i64 x.g0, .int .i64 x.g1, .int .i64 x.g2, .int .i64 x.g3, .int .i64 x.l, .int .i64 x.s, .int .i64 x.d] 69))) := Lib.hid (B1.out.alloc B1.out.size _)
    have HM := Lib.hid (MAt.new w1 x)
    have HT2 := Lib.hid (HT.out.keep B2.out)
    clear b1
    go_wp2_with fail
    refine (HO.out w1.heap.size _ HM.out HT2.out).mono ?_
    generalize w1.alloc (.cells #[.int .i64 x.g0, .int .i64 x.g1, .int .i64 x.g2, .int .i64 x.g3, .int .i64 x.l, .int .i64 x.s, .int .i64 x.d] 69) = W1 at *
    rintro e w2 ⟨rfl, b2⟩
    have B3 : Hid (Below w.heap.size w w2) := Lib.hid (B2.out.trans (b2.mono B2.out.size))
    have HM3 := Lib.hid (HM.out.keep b2)
    have HT3 := Lib.hid (HT2.out.keep b2)
    have hb3 : w1.heap.size < w2.heap.size := HM3.out.lt
    clear b2 B2 HM HT2
    go_wp2_with fail
    refine (HI.out _).mono ?_
    rintro e w3 ⟨rfl, rfl⟩
    have ⟨y0, y1, y2, y3, y4, y5, y6⟩ := HM3.out.cells
    go_wp2
    go_ret2
    exact ⟨ret_val HE2.out.symm, B3.out⟩
  · have HE2 : Hid (rgoV x 1 = .tuple #[.int .i64 x.g1, .int .i64 0]) := Lib.hid HE.out
    go_enter Tryd.func21, Tryd.ntmps21
    go_wp2_with fail
    refine (HF.out _).mono ?_
    rintro e w1 ⟨rfl, b1⟩
    have B1 : Hid (Below w.heap.size w w1) := Lib.hid (B0.out.trans (b1.mono B0.out.size))
    have B2 : Hid (Below w.heap.size w (w1.alloc (.cells #[.int .i64 x.g0, .int .i64 x.g1, .int .i64 x.g2, .int .i64 x.g3, .int .i64 x.l, .int .i64 x.s, .int .i64 x.d] 69))) := Lib.hid (B1.out.alloc B1.out.size _)
    have HM := Lib.hid (MAt.new w1 x)
    have HT2 := Lib.hid (HT.out.keep B2.out)
    clear b1
    go_wp2_with fail
    refine (HO.out w1.heap.size _ HM.out HT2.out).mono ?_
    generalize w1.alloc (.cells #[.int .i64 x.g0, .int .i64 x.g1, .int .i64 x.g2, .int .i64 x.g3, .int .i64 x.l, .int .i64 x.s, .int .i64 x.d] 69) = W1 at *
    rintro e w2 ⟨rfl, b2⟩
    have B3 : Hid (Below w.heap.size w w2) := Lib.hid (B2.out.trans (b2.mono B2.out.size))
    have HM3 := Lib.hid (HM.out.keep b2)
    have HT3 := Lib.hid (HT2.out.keep b2)
    have hb3 : w1.heap.size < w2.heap.size := HM3.out.lt
    clear b2 B2 HM HT2
    go_wp2_with fail
    refine (HI.out _).mono ?_
    rintro e w3 ⟨rfl, rfl⟩
    have ⟨y0, y1, y2, y3, y4, y5, y6⟩ := HM3.out.cells
    go_wp2
    go_ret2
    exact ⟨ret_val HE2.out.symm, B3.out⟩
  · have HE2 : Hid (rgoV x 2 = .tuple #[.int .i64 x.g2, .int .i64 0]) := Lib.hid HE.out
    go_enter Tryd.func21, Tryd.ntmps21
    go_wp2_with fail
    refine (HF.out _).mono ?_
    rintro e w1 ⟨rfl, b1⟩
    have B1 : Hid (Below w.heap.size w w1) := Lib.hid (B0.out.trans (b1.mono B0.out.size))
    have B2 : Hid (Below w.heap.size w (w1.alloc (.cells #[.int .i64 x.g0, .int .i64 x.g1, .int .i64 x.g2, .int .i64 x.g3, .int .i64 x.l, .int .i64 x.s, .int .i64 x.d] 69))) := Lib.hid (B1.out.alloc B1.out.size _)
    have HM := Lib.hid (MAt.new w1 x)
    have HT2 := Lib.hid (HT.out.keep B2.out)
    clear b1
    go_wp2_with fail
    refine (HO.out w1.heap.size _ HM.out HT2.out).mono ?_
    generalize w1.alloc (.cells #[.int .i64 x.g0, .int .i64 x.g1, .int .i64 x.g2, .int .i64 x.g3, .int .i64 x.l, .int .i64 x.s, .int .i64 x.d] 69) = W1 at *
    rintro e w2 ⟨rfl, b2⟩
    have B3 : Hid (Below w.heap.size w w2) := Lib.hid (B2.out.trans (b2.mono B2.out.size))
    have HM3 := Lib.hid (HM.out.keep b2)
    have HT3 := Lib.hid (HT2.out.keep b2)
    have hb3 : w1.heap.size < w2.heap.size := HM3.out.lt
    clear b2 B2 HM HT2
    go_wp2_with fail
    refine (HI.out _).mono ?_
    rintro e w3 ⟨rfl, rfl⟩
    have ⟨y0, y1, y2, y3, y4, y5, y6⟩ := HM3.out.cells
    go_wp2
    go_ret2
    exact ⟨ret_val HE2.out.symm, B3.out⟩
  · have HE2 : Hid (rgoV x 3 = .tuple #[.int .i64 x.g3, .int .i64 0]) := Lib.hid HE.out
    go_enter Tryd.func21, Tryd.ntmps21
    go_wp2_with fail
    refine (HF.out _).mono ?_
    rintro e w1 ⟨rfl, b1⟩
    have B1 : Hid (Below w.heap.size w w1) := Lib.hid (B0.out.trans (b1.mono B0.out.size))
    have B2 : Hid (Below w.heap.size w (w1.alloc (.cells #[.int .i64 x.g0, .int .i64 x.g1, .int .i64 x.g2, .int .i64 x.g3, .int .i64 x.l, .int .i64 x.s, .int .i64 x.d] 69))) := Lib.hid (B1.out.alloc B1.out.size _)
    have HM := Lib.hid (MAt.new w1 x)
    have HT2 := Lib.hid (HT.out.keep B2.out)
    clear b1
    go_wp2_with fail
    refine (HO.out w1.heap.size _ HM.out HT2.out).mono ?_
    generalize w1.alloc (.cells #[.int .i64 x.g0, .int .i64 x.g1, .int .i64 x.g2, .int .i64 x.g3, .int .i64 x.l, .int .i64 x.s, .int .i64 x.d] 69) = W1 at *
    rintro e w2 ⟨rfl, b2⟩
    have B3 : Hid (Below w.heap.size w w2) := Lib.hid (B2.out.trans (b2.mono B2.out.size))
    have HM3 := Lib.hid (HM.out.keep b2)
    have HT3 := Lib.hid (HT2.out.keep b2)
    have hb3 : w1.heap.size < w2.heap.size := HM3.out.lt
    clear b2 B2 HM HT2
    go_wp2_with fail
    refine (HI.out _).mono ?_
    rintro e w3 ⟨rfl, rfl⟩
    have ⟨y0, y1, y2, y3, y4, y5, y6⟩ := HM3.out.cells
    go_wp2
    go_ret2
    exact ⟨ret_val HE2.out.symm, B3.out⟩

end Go.Proofs.YtibadnfagoehmaaDoor

namespace Go.Proofs.YtibadnfagoehmaaDoor
open Go.RowKit Go.Sort

set_option maxHeartbeats 2000000 in
set_option maxRecDepth 100000 in
theorem impl_NameSet (x : St) (g n : Int) (w : World) (ht : TabM w) (hw : Wide64 x) : Calls Tryd.prog 19 #[stV x, .int .i64 g, .int .i64 n] w (NsDone x g n w) := by
  have HF := Lib.hid (fun w => impl_machineOf x w)
  have HO := Lib.hid (fun b w h ht => impl_ok x b w h ht hw.1 hw.2)
  have HT := Lib.hid ht
  have HP := Lib.hid (fun b w h => impl_pending x b w h)
  have HEO := Lib.hid (fun w ht => impl_EscapeOf g n w ht)
  have HST := Lib.hid (fun y b w h => impl_state y b w h)
  have B0 := Lib.hid (below_two w (.cells #[.int .i64 x.g0, .int .i64 x.g1, .int .i64 x.g2, .int .i64 x.g3, .int .i64 x.l, .int .i64 x.s, .int .i64 x.d] 24) (.cells #[.int .i64 0, .int .i64 0, .int .i64 0, .int .i64 0, .int .i64 0, .int .i64 0, .int .i64 0] 24))
  have HB0 : Hid (StAt ((w.alloc (.cells #[.int .i64 x.g0, .int .i64 x.g1, .int .i64 x.g2, .int .i64 x.g3, .int .i64 x.l, .int .i64 x.s, .int .i64 x.d] 24)).alloc (.cells #[.int .i64 0, .int .i64 0, .int .i64 0, .int .i64 0, .int .i64 0, .int .i64 0, .int .i64 0] 24)) w.heap.size x) := Lib.hid (heap_alloc2_old _ _ _)
  have HS0 : Hid (StAt ((w.alloc (.cells #[.int .i64 x.g0, .int .i64 x.g1, .int .i64 x.g2, .int .i64 x.g3, .int .i64 x.l, .int .i64 x.s, .int .i64 x.d] 24)).alloc (.cells #[.int .i64 0, .int .i64 0, .int .i64 0, .int .i64 0, .int .i64 0, .int .i64 0, .int .i64 0] 24)) (w.heap.size + 1) zeroSt) := Lib.hid (heap_alloc2_new _ _ _)
  clear ht hw
  unfold StDone stV at HF HST
  unfold stV
  cases ho : stOKB x
  · have HC : Hid (nsC x g n = 1) := Lib.hid (by simp [nsC, ho])
    have HE : Hid (nsX x g n = zeroSt) := Lib.hid (by simp [nsX, HC.out])
    rw [ho] at HO
    go_enter Tryd.func19, Tryd.ntmps19
    go_wp2_with fail
    refine (HF.out _).mono ?_
    generalize (w.alloc (.cells #[.int .i64 x.g0, .int .i64 x.g1, .int .i64 x.g2, .int .i64 x.g3, .int .i64 x.l, .int .i64 x.s, .int .i64 x.d] 24)).alloc (.cells #[.int .i64 0, .int .i64 0, .int .i64 0, .int .i64 0, .int .i64 0, .int .i64 0, .int .i64 0] 24) = W0 at *
    rintro e w1 ⟨rfl, b1⟩
    have B1 : Hid (Below w.heap.size w w1) := Lib.hid (B0.out.trans (b1.mono B0.out.size))
    have HB1 := Lib.hid ((HB0.out.keep b1).keep (below_one w1 (.cells #[.int .i64 x.g0, .int .i64 x.g1, .int .i64 x.g2, .int .i64 x.g3, .int .i64 x.l, .int .i64 x.s, .int .i64 x.d] 69)))
    have HS1 := Lib.hid ((HS0.out.keep b1).keep (below_one w1 (.cells #[.int .i64 x.g0, .int .i64 x.g1, .int .i64 x.g2, .int .i64 x.g3, .int .i64 x.l, .int .i64 x.s, .int .i64 x.d] 69)))
    have B2 : Hid (Below w.heap.size w (w1.alloc (.cells #[.int .i64 x.g0, .int .i64 x.g1, .int .i64 x.g2, .int .i64 x.g3, .int .i64 x.l, .int .i64 x.s, .int .i64 x.d] 69))) := Lib.hid (B1.out.alloc B1.out.size _)
    have HM := Lib.hid (MAt.new w1 x)
    have HT2 := Lib.hid (HT.out.keep B2.out)
    have hw1 : w.heap.size + 1 < w1.heap.size := (HS0.out.keep b1).lt
    clear b1 HB0 HS0
    go_wp2_with fail
    refine (HO.out w1.heap.size _ HM.out HT2.out).mono ?_
    generalize w1.alloc (.cells #[.int .i64 x.g0, .int .i64 x.g1, .int .i64 x.g2, .int .i64 x.g3, .int .i64 x.l, .int .i64 x.s, .int .i64 x.d] 69) = W1 at *
    rintro e W2 ⟨rfl, b2⟩
    have B3 : Hid (Below w.heap.size w W2) := Lib.hid (B2.out.trans (b2.mono B2.out.size))
    have HB3 := Lib.hid (HB1.out.keep b2)
    have HS3 := Lib.hid (HS1.out.keep b2)
    have HM3 := Lib.hid (HM.out.keep b2)
    have HT3 := Lib.hid (HT2.out.keep b2)
    have hb3 : w1.heap.size < W2.heap.size := HM3.out.lt
    clear b2 B2 HM HT2 HB1 HS1
    have ⟨r0, r1, r2, r3, r4, r5, r6⟩ := HS3.out.cells
    have ⟨z0, z1, z2, z3, z4, z5, z6⟩ := HS3.out.thaw
    simp only [zeroSt] at r0 r1 r2 r3 r4 r5 r6
    have hl : w.heap.size + 1 < W2.heap.size := HS3.out.lt
    go_wp2
    exact st_ret2 (y := zeroSt) rfl rfl rfl (HS3.out.put zeroSt) Tryd.underlying24 rfl (by kernel_rfl) rfl ⟨by rw [HC.out, HE.out], below_putSt B3.out (Nat.le_succ _) zeroSt⟩
  rw [ho] at HO
  unfold eoV at HEO
  generalize eoT g n = et at *
  by_cases he : eoC g n = 0
  · have ⟨g0, g3⟩ := eoC_in he
    rw [he] at HEO
    cases hp : pendI x
    · have HC : Hid (nsC x g n = 0) := Lib.hid (by rw [pend_eq ho] at hp; simp [nsC, ho, he, hp])
      have HE : Hid (nsX x g n = stPut x g n) := Lib.hid (by simp [nsX, HC.out])
      rw [hp] at HP
      clear hp he
      go_enter Tryd.func19, Tryd.ntmps19
      go_wp2_with fail
      refine (HF.out _).mono ?_
      generalize (w.alloc (.cells #[.int .i64 x.g0, .int .i64 x.g1, .int .i64 x.g2, .int .i64 x.g3, .int .i64 x.l, .int .i64 x.s, .int .i64 x.d] 24)).alloc (.cells #[.int .i64 0, .int .i64 0, .int .i64 0, .int .i64 0, .int .i64 0, .int .i64 0, .int .i64 0] 24) = W0 at *
      rintro e w1 ⟨rfl, b1⟩
      have B1 : Hid (Below w.heap.size w w1) := Lib.hid (B0.out.trans (b1.mono B0.out.size))
      have HB1 := Lib.hid ((HB0.out.keep b1).keep (below_one w1 (.cells #[.int .i64 x.g0, .int .i64 x.g1, .int .i64 x.g2, .int .i64 x.g3, .int .i64 x.l, .int .i64 x.s, .int .i64 x.d] 69)))
      have HS1 := Lib.hid ((HS0.out.keep b1).keep (below_one w1 (.cells #[.int .i64 x.g0, .int .i64 x.g1, .int .i64 x.g2, .int .i64 x.g3, .int .i64 x.l, .int .i64 x.s, .int .i64 x.d] 69)))
      have B2 : Hid (Below w.heap.size w (w1.alloc (.cells #[.int .i64 x.g0, .int .i64 x.g1, .int .i64 x.g2, .int .i64 x.g3, .int .i64 x.l, .int .i64 x.s, .int .i64 x.d] 69))) := Lib.hid (B1.out.alloc B1.out.size _)
      have HM := Lib.hid (MAt.new w1 x)
      have HT2 := Lib.hid (HT.out.keep B2.out)
      have hw1 : w.heap.size + 1 < w1.heap.size := (HS0.out.keep b1).lt
      clear b1 HB0 HS0
      go_wp2_with fail
      refine (HO.out w1.heap.size _ HM.out HT2.out).mono ?_
      generalize w1.alloc (.cells #[.int .i64 x.g0, .int .i64 x.g1, .int .i64 x.g2, .int .i64 x.g3, .int .i64 x.l, .int .i64 x.s, .int .i64 x.d] 69) = W1 at *
      rintro e W2 ⟨rfl, b2⟩
      have B3 : Hid (Below w.heap.size w W2) := Lib.hid (B2.out.trans (b2.mono B2.out.size))
      have HB3 := Lib.hid (HB1.out.keep b2)
      have HS3 := Lib.hid (HS1.out.keep b2)
      have HM3 := Lib.hid (HM.out.keep b2)
      have HT3 := Lib.hid (HT2.out.keep b2)
      have hb3 : w1.heap.size < W2.heap.size := HM3.out.lt
      clear b2 B2 HM HT2 HB1 HS1
      go_wp2_with fail
      refine (HEO.out _ HT3.out.1).mono ?_
      rintro e W4 ⟨rfl, b4⟩
      have B4 : Hid (Below w.heap.size w W4) := Lib.hid (B3.out.trans (b4.mono B3.out.size))
      have HB4 := Lib.hid (HB3.out.keep b4)
      have HS4 := Lib.hid (HS3.out.keep b4)
      have HM4 := Lib.hid (HM3.out.keep b4)
      clear b4 B3 HB3 HS3 HM3 HT3 hb3
      go_wp2_with fail
      refine (HP.out _ _ HM4.out).mono ?_
      rintro e W5 ⟨rfl, rfl⟩
      have ⟨y0, y1, y2, y3, y4, y5, y6⟩ := HM4.out.cells
      have ⟨q0, q1, q2, q3, q4, q5, q6⟩ := HM4.out.thaw
      have hl6 : w1.heap.size < W4.heap.size := HM4.out.lt
      have : g = 0 ∨ g = 1 ∨ g = 2 ∨ g = 3 := by omega
      clear g0 g3
      rcases this with rfl | rfl | rfl | rfl
      · have HP2 : Hid (stPut x 0 n = ⟨n, x.g1, x.g2, x.g3, x.l, x.s, x.d⟩) := Lib.hid rfl
        have HM5 : Hid (MAt (W4.setCell ⟨w1.heap.size, 0, none⟩ (.int .i64 n)) w1.heap.size ⟨n, x.g1, x.g2, x.g3, x.l, x.s, x.d⟩) := Lib.hid (heap_setCell_same _ _ 0 _ _ (.int .i64 n) HM4.out)
        have HS5 : Hid (StAt (W4.setCell ⟨w1.heap.size, 0, none⟩ (.int .i64 n)) (w.heap.size + 1) zeroSt) := Lib.hid (by
          unfold StAt
          rw [Below.heap_setCell _ _ _ _ (by simp; omega)]
          exact HS4.out)
        have B5 : Hid (Below w.heap.size w (W4.setCell ⟨w1.heap.size, 0, none⟩ (.int .i64 n))) := Lib.hid (B4.out.setCell (show w.heap.size ≤ w1.heap.size by omega) _)
        go_wp2_with fail
        refine (HST.out ⟨n, x.g1, x.g2, x.g3, x.l, x.s, x.d⟩ w1.heap.size _ HM5.out).mono ?_
        clear y0 y1 y2 y3 y4 y5 y6 q0 q1 q2 q3 q4 q5 q6 hl6
        generalize W4.setCell ⟨w1.heap.size, 0, none⟩ (.int .i64 n) = W5 at *
        rintro e W6 ⟨rfl, b6⟩
        have B6 : Hid (Below w.heap.size w W6) := Lib.hid (B5.out.trans (b6.mono B5.out.size))
        have HS6 := Lib.hid (HS5.out.keep b6)
        have ⟨r0, r1, r2, r3, r4, r5, r6⟩ := HS6.out.cells
        have ⟨z0, z1, z2, z3, z4, z5, z6⟩ := HS6.out.thaw
        simp only [zeroSt] at r0 r1 r2 r3 r4 r5 r6
        have hl : w.heap.size + 1 < W6.heap.size := HS6.out.lt
        dsimp only
        go_wp2
        exact st_ret2 (y := ⟨n, x.g1, x.g2, x.g3, x.l, x.s, x.d⟩) rfl rfl rfl (HS6.out.put ⟨n, x.g1, x.g2, x.g3, x.l, x.s, x.d⟩) Tryd.underlying24 rfl (by kernel_rfl) rfl ⟨by rw [HC.out, HE.out, HP2.out], below_putSt B6.out (Nat.le_succ _) ⟨n, x.g1, x.g2, x.g3, x.l, x.s, x.d⟩⟩
      · have HP2 : Hid (stPut x 1 n = ⟨x.g0, n, x.g2, x.g3, x.l, x.s, x.d⟩) := Lib.hid rfl
        have HM5 : Hid (MAt (W4.setCell ⟨w1.heap.size, 1, none⟩ (.int .i64 n)) w1.heap.size ⟨x.g0, n, x.g2, x.g3, x.l, x.s, x.d⟩) := Lib.hid (heap_setCell_same _ _ 1 _ _ (.int .i64 n) HM4.out)
        have HS5 : Hid (StAt (W4.setCell ⟨w1.heap.size, 1, none⟩ (.int .i64 n)) (w.heap.size + 1) zeroSt) := Lib.hid (by
          unfold StAt
          rw [Below.heap_setCell _ _ _ _ (by simp; omega)]
          exact HS4.out)
        have B5 : Hid (Below w.heap.size w (W4.setCell ⟨w1.heap.size, 1, none⟩ (.int .i64 n))) := Lib.hid (B4.out.setCell (show w.heap.size ≤ w1.heap.size by omega) _)
        go_wp2_with fail
        refine (HST.out ⟨x.g0, n, x.g2, x.g3, x.l, x.s, x.d⟩ w1.heap.size _ HM5.out).mono ?_
        clear y0 y1 y2 y3 y4 y5 y6 q0 q1 q2 q3 q4 q5 q6 hl6
        generalize W4.setCell ⟨w1.heap.size, 1, none⟩ (.int .i64 n) = W5 at *
        rintro e W6 ⟨rfl, b6⟩
        have B6 : Hid (Below w.heap.size w W6) := Lib.hid (B5.out.trans (b6.mono B5.out.size))
        have HS6 := Lib.hid (HS5.out.keep b6)
        have ⟨r0, r1, r2, r3, r4, r5, r6⟩ := HS6.out.cells
        have ⟨z0, z1, z2, z3, z4, z5, z6⟩ := HS6.out.thaw
        simp only [zeroSt] at r0 r1 r2 r3 r4 r5 r6
        have hl : w.heap.size + 1 < W6.heap.size := HS6.out.lt
        dsimp only
        go_wp2
        exact st_ret2 (y := ⟨x.g0, n, x.g2, x.g3, x.l, x.s, x.d⟩) rfl rfl rfl (HS6.out.put ⟨x.g0, n, x.g2, x.g3, x.l, x.s, x.d⟩) Tryd.underlying24 rfl (by kernel_rfl) rfl ⟨by rw [HC.out, HE.out, HP2.out], below_putSt B6.out (Nat.le_succ _) ⟨x.g0, n, x.g2, x.g3, x.l, x.s, x.d⟩⟩
      · have HP2 : Hid (stPut x 2 n = ⟨x.g0, x.g1, n, x.g3, x.l, x.s, x.d⟩) := Lib.hid rfl
        have HM5 : Hid (MAt (W4.setCell ⟨w1.heap.size, 2, none⟩ (.int .i64 n)) w1.heap.size ⟨x.g0, x.g1, n, x.g3, x.l, x.s, x.d⟩) := Lib.hid (heap_setCell_same _ _ 2 _ _ (.int .i64 n) HM4.out)
        have HS5 : Hid (StAt (W4.setCell ⟨w1.heap.size, 2, none⟩ (.int .i64 n)) (w.heap.size + 1) zeroSt) := Lib.hid (by
          unfold StAt
          rw [Below.heap_setCell _ _ _ _ (by simp; omega)]
          exact HS4.out)
        have B5 : Hid (Below w.heap.size w (W4.setCell ⟨w1.heap.size, 2, none⟩ (.int .i64 n))) := Lib.hid (B4.out.setCell (show w.heap.size ≤ w1.heap.size by omega) _)
        go_wp2_with fail
        refine (HST.out ⟨x.g0, x.g1, n, x.g3, x.l, x.s, x.d⟩ w1.heap.size _ HM5.out).mono ?_
        clear y0 y1 y2 y3 y4 y5 y6 q0 q1 q2 q3 q4 q5 q6 hl6
        generalize W4.setCell ⟨w1.heap.size, 2, none⟩ (.int .i64 n) = W5 at *
        rintro e W6 ⟨rfl, b6⟩
        have B6 : Hid (Below w.heap.size w W6) := Lib.hid (B5.out.trans (b6.mono B5.out.size))
        have HS6 := Lib.hid (HS5.out.keep b6)
        have ⟨r0, r1, r2, r3, r4, r5, r6⟩ := HS6.out.cells
        have ⟨z0, z1, z2, z3, z4, z5, z6⟩ := HS6.out.thaw
        simp only [zeroSt] at r0 r1 r2 r3 r4 r5 r6
        have hl : w.heap.size + 1 < W6.heap.size := HS6.out.lt
        dsimp only
        go_wp2
        exact st_ret2 (y := ⟨x.g0, x.g1, n, x.g3, x.l, x.s, x.d⟩) rfl rfl rfl (HS6.out.put ⟨x.g0, x.g1, n, x.g3, x.l, x.s, x.d⟩) Tryd.underlying24 rfl (by kernel_rfl) rfl ⟨by rw [HC.out, HE.out, HP2.out], below_putSt B6.out (Nat.le_succ _) ⟨x.g0, x.g1, n, x.g3, x.l, x.s, x.d⟩⟩
      · have HP2 : Hid (stPut x 3 n = ⟨x.g0, x.g1, x.g2, n, x.l, x.s, x.d⟩) := Lib.hid rfl
        have HM5 : Hid (MAt (W4.setCell ⟨w1.heap.size, 3, none⟩ (.int .i64 n)) w1.heap.size ⟨x.g0, x.g1, x.g2, n, x.l, x.s, x.d⟩) := Lib.hid (heap_setCell_same _ _ 3 _ _ (.int .i64 n) HM4.out)
        have HS5 : Hid (StAt (W4.setCell ⟨w1.heap.size, 3, none⟩ (.int .i64 n)) (w.heap.size + 1) zeroSt) := Lib.hid (by
          unfold StAt
          rw [Below.heap_setCell _ _ _ _ (by simp; omega)]
          exact HS4.out)
        have B5 : Hid (Below w.heap.size w (W4.setCell ⟨w1.heap.size, 3, none⟩ (.int .i64 n))) := Lib.hid (B4.out.setCell (show w.heap.size ≤ w1.heap.size by omega) _)
        go_wp2_with fail
        refine (HST.out ⟨x.g0, x.g1, x.g2, n, x.l, x.s, x.d⟩ w1.heap.size _ HM5.out).mono ?_
        clear y0 y1 y2 y3 y4 y5 y6 q0 q1 q2 q3 q4 q5 q6 hl6
        generalize W4.setCell ⟨w1.heap.size, 3, none⟩ (.int .i64 n) = W5 at *
        rintro e W6 ⟨rfl, b6⟩
        have B6 : Hid (Below w.heap.size w W6) := Lib.hid (B5.out.trans (b6.mono B5.out.size))
        have HS6 := Lib.hid (HS5.out.keep b6)
        have ⟨r0, r1, r2, r3, r4, r5, r6⟩ := HS6.out.cells
        have ⟨z0, z1, z2, z3, z4, z5, z6⟩ := HS6.out.thaw
        simp only [zeroSt] at r0 r1 r2 r3 r4 r5 r6
        have hl : w.heap.size + 1 < W6.heap.size := HS6.out.lt
        dsimp only
        go_wp2
        exact st_ret2 (y := ⟨x.g0, x.g1, x.g2, n, x.l, x.s, x.d⟩) rfl rfl rfl (HS6.out.put ⟨x.g0, x.g1, x.g2, n, x.l, x.s, x.d⟩) Tryd.underlying24 rfl (by kernel_rfl) rfl ⟨by rw [HC.out, HE.out, HP2.out], below_putSt B6.out (Nat.le_succ _) ⟨x.g0, x.g1, x.g2, n, x.l, x.s, x.d⟩⟩
    · have HC : Hid (nsC x g n = 13) := Lib.hid (by rw [pend_eq ho] at hp; simp [nsC, ho, he, hp])
      have HE : Hid (nsX x g n = x) := Lib.hid (by simp [nsX, HC.out])
      rw [hp] at HP
      clear hp he
      go_enter Tryd.func19, Tryd.ntmps19
      go_wp2_with fail
      refine (HF.out _).mono ?_
      generalize (w.alloc (.cells #[.int .i64 x.g0, .int .i64 x.g1, .int .i64 x.g2, .int .i64 x.g3, .int .i64 x.l, .int .i64 x.s, .int .i64 x.d] 24)).alloc (.cells #[.int .i64 0, .int .i64 0, .int .i64 0, .int .i64 0, .int .i64 0, .int .i64 0, .int .i64 0] 24) = W0 at *
      rintro e w1 ⟨rfl, b1⟩
      have B1 : Hid (Below w.heap.size w w1) := Lib.hid (B0.out.trans (b1.mono B0.out.size))
      have HB1 := Lib.hid ((HB0.out.keep b1).keep (below_one w1 (.cells #[.int .i64 x.g0, .int .i64 x.g1, .int .i64 x.g2, .int .i64 x.g3, .int .i64 x.l, .int .i64 x.s, .int .i64 x.d] 69)))
      have HS1 := Lib.hid ((HS0.out.keep b1).keep (below_one w1 (.cells #[.int .i64 x.g0, .int .i64 x.g1, .int .i64 x.g2, .int .i64 x.g3, .int .i64 x.l, .int .i64 x.s, .int .i64 x.d] 69)))
      have B2 : Hid (Below w.heap.size w (w1.alloc (.cells #[.int .i64 x.g0, .int .i64 x.g1, .int .i64 x.g2, .int .i64 x.g3, .int .i64 x.l, .int .i64 x.s, .int .i64 x.d] 69))) := Lib.hid (B1.out.alloc B1.out.size _)
      have HM := Lib.hid (MAt.new w1 x)
      have HT2 := Lib.hid (HT.out.keep B2.out)
      have hw1 : w.heap.size + 1 < w1.heap.size := (HS0.out.keep b1).lt
      clear b1 HB0 HS0
      go_wp2_with fail
      refine (HO.out w1.heap.size _ HM.out HT2.out).mono ?_
      generalize w1.alloc (.cells #[.int .i64 x.g0, .int .i64 x.g1, .int .i64 x.g2, .int .i64 x.g3, .int .i64 x.l, .int .i64 x.s, .int .i64 x.d] 69) = W1 at *
      rintro e W2 ⟨rfl, b2⟩
      have B3 : Hid (Below w.heap.size w W2) := Lib.hid (B2.out.trans (b2.mono B2.out.size))
      have HB3 := Lib.hid (HB1.out.keep b2)
      have HS3 := Lib.hid (HS1.out.keep b2)
      have HM3 := Lib.hid (HM.out.keep b2)
      have HT3 := Lib.hid (HT2.out.keep b2)
      have hb3 : w1.heap.size < W2.heap.size := HM3.out.lt
      clear b2 B2 HM HT2 HB1 HS1
      go_wp2_with fail
      refine (HEO.out _ HT3.out.1).mono ?_
      rintro e W4 ⟨rfl, b4⟩
      have B4 : Hid (Below w.heap.size w W4) := Lib.hid (B3.out.trans (b4.mono B3.out.size))
      have HB4 := Lib.hid (HB3.out.keep b4)
      have HS4 := Lib.hid (HS3.out.keep b4)
      have HM4 := Lib.hid (HM3.out.keep b4)
      clear b4 B3 HB3 HS3 HM3 HT3 hb3
      go_wp2_with fail
      refine (HP.out _ _ HM4.out).mono ?_
      rintro e W5 ⟨rfl, rfl⟩
      have ⟨y0, y1, y2, y3, y4, y5, y6⟩ := HB4.out.cells
      have ⟨r0, r1, r2, r3, r4, r5, r6⟩ := HS4.out.cells
      have ⟨z0, z1, z2, z3, z4, z5, z6⟩ := HS4.out.thaw
      simp only [zeroSt] at r0 r1 r2 r3 r4 r5 r6
      have hl : w.heap.size + 1 < W4.heap.size := HS4.out.lt
      go_wp2
      exact st_ret2 (y := x) rfl rfl rfl (HS4.out.put x) Tryd.underlying24 rfl (by kernel_rfl) rfl ⟨by rw [HC.out, HE.out], below_putSt B4.out (Nat.le_succ _) x⟩
  · have HC : Hid (nsC x g n = eoC g n) := Lib.hid (by simp [nsC, ho, he])
    have HE : Hid (nsX x g n = zeroSt) := Lib.hid (by
      rw [nsX, HC.out, if_neg he, if_neg (by have := eoC_vals g n; omega)])
    generalize eoC g n = c at *
    have ec : (c != 0) = true := by simpa using he
    clear he
    go_enter Tryd.func19, Tryd.ntmps19
    go_wp2_with fail
    refine (HF.out _).mono ?_
    generalize (w.alloc (.cells #[.int .i64 x.g0, .int .i64 x.g1, .int .i64 x.g2, .int .i64 x.g3, .int .i64 x.l, .int .i64 x.s, .int .i64 x.d] 24)).alloc (.cells #[.int .i64 0, .int .i64 0, .int .i64 0, .int .i64 0, .int .i64 0, .int .i64 0, .int .i64 0] 24) = W0 at *
    rintro e w1 ⟨rfl, b1⟩
    have B1 : Hid (Below w.heap.size w w1) := Lib.hid (B0.out.trans (b1.mono B0.out.size))
    have HB1 := Lib.hid ((HB0.out.keep b1).keep (below_one w1 (.cells #[.int .i64 x.g0, .int .i64 x.g1, .int .i64 x.g2, .int .i64 x.g3, .int .i64 x.l, .int .i64 x.s, .int .i64 x.d] 69)))
    have HS1 := Lib.hid ((HS0.out.keep b1).keep (below_one w1 (.cells #[.int .i64 x.g0, .int .i64 x.g1, .int .i64 x.g2, .int .i64 x.g3, .int .i64 x.l, .int .i64 x.s, .int .i64 x.d] 69)))
    have B2 : Hid (Below w.heap.size w (w1.alloc (.cells #[.int .i64 x.g0, .int .i64 x.g1, .int .i64 x.g2, .int .i64 x.g3, .int .i64 x.l, .int .i64 x.s, .int .i64 x.d] 69))) := Lib.hid (B1.out.alloc B1.out.size _)
    have HM := Lib.hid (MAt.new w1 x)
    have HT2 := Lib.hid (HT.out.keep B2.out)
    have hw1 : w.heap.size + 1 < w1.heap.size := (HS0.out.keep b1).lt
    clear b1 HB0 HS0
    go_wp2_with fail
    refine (HO.out w1.heap.size _ HM.out HT2.out).mono ?_
    generalize w1.alloc (.cells #[.int .i64 x.g0, .int .i64 x.g1, .int .i64 x.g2, .int .i64 x.g3, .int .i64 x.l, .int .i64 x.s, .int .i64 x.d] 69) = W1 at *
    rintro e W2 ⟨rfl, b2⟩
    have B3 : Hid (Below w.heap.size w W2) := Lib.hid (B2.out.trans (b2.mono B2.out.size))
    have HB3 := Lib.hid (HB1.out.keep b2)
    have HS3 := Lib.hid (HS1.out.keep b2)
    have HM3 := Lib.hid (HM.out.keep b2)
    have HT3 := Lib.hid (HT2.out.keep b2)
    have hb3 : w1.heap.size < W2.heap.size := HM3.out.lt
    clear b2 B2 HM HT2 HB1 HS1
    go_wp2_with fail
    refine (HEO.out _ HT3.out.1).mono ?_
    rintro e W4 ⟨rfl, b4⟩
    have B4 : Hid (Below w.heap.size w W4) := Lib.hid (B3.out.trans (b4.mono B3.out.size))
    have HB4 := Lib.hid (HB3.out.keep b4)
    have HS4 := Lib.hid (HS3.out.keep b4)
    have HM4 := Lib.hid (HM3.out.keep b4)
    clear b4 B3 HB3 HS3 HM3 HT3 hb3
    have ⟨r0, r1, r2, r3, r4, r5, r6⟩ := HS4.out.cells
    have ⟨z0, z1, z2, z3, z4, z5, z6⟩ := HS4.out.thaw
    simp only [zeroSt] at r0 r1 r2 r3 r4 r5 r6
    have hl : w.heap.size + 1 < W4.heap.size := HS4.out.lt
    go_wp2
    exact st_ret2 (y := zeroSt) rfl rfl rfl (HS4.out.put zeroSt) Tryd.underlying24 rfl (by kernel_rfl) rfl ⟨by rw [HC.out, HE.out], below_putSt B4.out (Nat.le_succ _) zeroSt⟩

end Go.Proofs.YtibadnfagoehmaaDoor

namespace Go.Proofs.YtibadnfagoehmaaDoor
open Go.RowKit

theorem pro_cases {n : Int} (h : proB n = true) : n = 1 ∨ n = 2 ∨ n = 3 ∨ n = 4 ∨ n = 5 := by have := inB_true h; omega
theorem head_kr : eoV 1 7 = .tuple #[.string ⟨#[27, 36, 41, 67]⟩, .int .i64 0] := by kernel_rfl
theorem row8_cells {w : World} {g : Nat} {a0 a1 a2 a3 a4 a5 a6 a7 : Value} {t : TypeId} {fr : Nat × Nat} (h : w.heap[g]? = some (.cells #[a0, a1, a2, a3, a4, a5, a6, a7] t fr)) : w.cell? ⟨g, 0, none⟩ = some a0 ∧ w.cell? ⟨g, 1, none⟩ = some a1 ∧ w.cell? ⟨g, 2, none⟩ = some a2 ∧ w.cell? ⟨g, 3, none⟩ = some a3 ∧ w.cell? ⟨g, 4, none⟩ = some a4 ∧ w.cell? ⟨g, 5, none⟩ = some a5 ∧ w.cell? ⟨g, 6, none⟩ = some a6 ∧ w.cell? ⟨g, 7, none⟩ = some a7 :=
  ⟨by rw [cell_of_row _ _ _ _ _ _ h]; rfl, by rw [cell_of_row _ _ _ _ _ _ h]; rfl, by rw [cell_of_row _ _ _ _ _ _ h]; rfl, by rw [cell_of_row _ _ _ _ _ _ h]; rfl, by rw [cell_of_row _ _ _ _ _ _ h]; rfl, by rw [cell_of_row _ _ _ _ _ _ h]; rfl, by rw [cell_of_row _ _ _ _ _ _ h]; rfl, by rw [cell_of_row _ _ _ _ _ _ h]; rfl⟩
theorem row8_thaw {w : World} {g : Nat} {a0 a1 a2 a3 a4 a5 a6 a7 : Value} {t : TypeId} (h : w.heap[g]? = some (.cells #[a0, a1, a2, a3, a4, a5, a6, a7] t)) : w.frozen? ⟨g, 0, none⟩ = false ∧ w.frozen? ⟨g, 1, none⟩ = false ∧ w.frozen? ⟨g, 2, none⟩ = false ∧ w.frozen? ⟨g, 3, none⟩ = false ∧ w.frozen? ⟨g, 4, none⟩ = false ∧ w.frozen? ⟨g, 5, none⟩ = false ∧ w.frozen? ⟨g, 6, none⟩ = false ∧ w.frozen? ⟨g, 7, none⟩ = false :=
  ⟨frozen_of_row w _ 0 _ _ h, frozen_of_row w _ 1 _ _ h, frozen_of_row w _ 2 _ _ h, frozen_of_row w _ 3 _ _ h, frozen_of_row w _ 4 _ _ h, frozen_of_row w _ 5 _ _ h, frozen_of_row w _ 6 _ _ h, frozen_of_row w _ 7 _ _ h⟩
def put8 (w : World) (g : Nat) (v0 v1 v2 v3 v4 v5 v6 v7 : Value) : World := ((((((((w.setCell ⟨g, 0, none⟩ v0).setCell ⟨g, 1, none⟩ v1).setCell ⟨g, 2, none⟩ v2).setCell ⟨g, 3, none⟩ v3).setCell ⟨g, 4, none⟩ v4).setCell ⟨g, 5, none⟩ v5).setCell ⟨g, 6, none⟩ v6).setCell ⟨g, 7, none⟩ v7)
theorem put8_row {w : World} {g : Nat} {a0 a1 a2 a3 a4 a5 a6 a7 : Value} {t : TypeId} (h : w.heap[g]? = some (.cells #[a0, a1, a2, a3, a4, a5, a6, a7] t)) (v0 v1 v2 v3 v4 v5 v6 v7 : Value) : (put8 w g v0 v1 v2 v3 v4 v5 v6 v7).heap[g]? = some (.cells #[v0, v1, v2, v3, v4, v5, v6, v7] t) := by
  have k0 : (w.setCell ⟨g, 0, none⟩ v0).heap[g]? = some (.cells #[v0, a1, a2, a3, a4, a5, a6, a7] t) := heap_setCell_same _ _ 0 _ _ v0 h
  have k1 : ((w.setCell ⟨g, 0, none⟩ v0).setCell ⟨g, 1, none⟩ v1).heap[g]? = some (.cells #[v0, v1, a2, a3, a4, a5, a6, a7] t) := heap_setCell_same _ _ 1 _ _ v1 k0
  have k2 : (((w.setCell ⟨g, 0, none⟩ v0).setCell ⟨g, 1, none⟩ v1).setCell ⟨g, 2, none⟩ v2).heap[g]? = some (.cells #[v0, v1, v2, a3, a4, a5, a6, a7] t) := heap_setCell_same _ _ 2 _ _ v2 k1
  have k3 : ((((w.setCell ⟨g, 0, none⟩ v0).setCell ⟨g, 1, none⟩ v1).setCell ⟨g, 2, none⟩ v2).setCell ⟨g, 3, none⟩ v3).heap[g]? = some (.cells #[v0, v1, v2, v3, a4, a5, a6, a7] t) := heap_setCell_same _ _ 3 _ _ v3 k2
  have k4 : (((((w.setCell ⟨g, 0, none⟩ v0).setCell ⟨g, 1, none⟩ v1).setCell ⟨g, 2, none⟩ v2).setCell ⟨g, 3, none⟩ v3).setCell ⟨g, 4, none⟩ v4).heap[g]? = some (.cells #[v0, v1, v2, v3, v4, a5, a6, a7] t) := heap_setCell_same _ _ 4 _ _ v4 k3
  have k5 : ((((((w.setCell ⟨g, 0, none⟩ v0).setCell ⟨g, 1, none⟩ v1).setCell ⟨g, 2, none⟩ v2).setCell ⟨g, 3, none⟩ v3).setCell ⟨g, 4, none⟩ v4).setCell ⟨g, 5, none⟩ v5).heap[g]? = some (.cells #[v0, v1, v2, v3, v4, v5, a6, a7] t) := heap_setCell_same _ _ 5 _ _ v5 k4
  have k6 : (((((((w.setCell ⟨g, 0, none⟩ v0).setCell ⟨g, 1, none⟩ v1).setCell ⟨g, 2, none⟩ v2).setCell ⟨g, 3, none⟩ v3).setCell ⟨g, 4, none⟩ v4).setCell ⟨g, 5, none⟩ v5).setCell ⟨g, 6, none⟩ v6).heap[g]? = some (.cells #[v0, v1, v2, v3, v4, v5, v6, a7] t) := heap_setCell_same _ _ 6 _ _ v6 k5
  have k7 : ((((((((w.setCell ⟨g, 0, none⟩ v0).setCell ⟨g, 1, none⟩ v1).setCell ⟨g, 2, none⟩ v2).setCell ⟨g, 3, none⟩ v3).setCell ⟨g, 4, none⟩ v4).setCell ⟨g, 5, none⟩ v5).setCell ⟨g, 6, none⟩ v6).setCell ⟨g, 7, none⟩ v7).heap[g]? = some (.cells #[v0, v1, v2, v3, v4, v5, v6, v7] t) := heap_setCell_same _ _ 7 _ _ v7 k6
  exact k7
theorem put8_below {B : Nat} {u w : World} {g : Nat} (h : Below B u w) (hg : B ≤ g) (v0 v1 v2 v3 v4 v5 v6 v7 : Value) : Below B u (put8 w g v0 v1 v2 v3 v4 v5 v6 v7) := ((((((((h.setCell hg _).setCell hg _).setCell hg _).setCell hg _).setCell hg _).setCell hg _).setCell hg _).setCell hg _)

theorem row10_cells {w : World} {g : Nat} {a0 a1 a2 a3 a4 a5 a6 a7 a8 a9 : Value} {t : TypeId} {fr : Nat × Nat} (h : w.heap[g]? = some (.cells #[a0, a1, a2, a3, a4, a5, a6, a7, a8, a9] t fr)) : w.cell? ⟨g, 0, none⟩ = some a0 ∧ w.cell? ⟨g, 1, none⟩ = some a1 ∧ w.cell? ⟨g, 2, none⟩ = some a2 ∧ w.cell? ⟨g, 3, none⟩ = some a3 ∧ w.cell? ⟨g, 4, none⟩ = some a4 ∧ w.cell? ⟨g, 5, none⟩ = some a5 ∧ w.cell? ⟨g, 6, none⟩ = some a6 ∧ w.cell? ⟨g, 7, none⟩ = some a7 ∧ w.cell? ⟨g, 8, none⟩ = some a8 ∧ w.cell? ⟨g, 9, none⟩ = some a9 :=
  ⟨by rw [cell_of_row _ _ _ _ _ _ h]; rfl, by rw [cell_of_row _ _ _ _ _ _ h]; rfl, by rw [cell_of_row _ _ _ _ _ _ h]; rfl, by rw [cell_of_row _ _ _ _ _ _ h]; rfl, by rw [cell_of_row _ _ _ _ _ _ h]; rfl, by rw [cell_of_row _ _ _ _ _ _ h]; rfl, by rw [cell_of_row _ _ _ _ _ _ h]; rfl, by rw [cell_of_row _ _ _ _ _ _ h]; rfl, by rw [cell_of_row _ _ _ _ _ _ h]; rfl, by rw [cell_of_row _ _ _ _ _ _ h]; rfl⟩
theorem row10_thaw {w : World} {g : Nat} {a0 a1 a2 a3 a4 a5 a6 a7 a8 a9 : Value} {t : TypeId} (h : w.heap[g]? = some (.cells #[a0, a1, a2, a3, a4, a5, a6, a7, a8, a9] t)) : w.frozen? ⟨g, 0, none⟩ = false ∧ w.frozen? ⟨g, 1, none⟩ = false ∧ w.frozen? ⟨g, 2, none⟩ = false ∧ w.frozen? ⟨g, 3, none⟩ = false ∧ w.frozen? ⟨g, 4, none⟩ = false ∧ w.frozen? ⟨g, 5, none⟩ = false ∧ w.frozen? ⟨g, 6, none⟩ = false ∧ w.frozen? ⟨g, 7, none⟩ = false ∧ w.frozen? ⟨g, 8, none⟩ = false ∧ w.frozen? ⟨g, 9, none⟩ = false :=
  ⟨frozen_of_row w _ 0 _ _ h, frozen_of_row w _ 1 _ _ h, frozen_of_row w _ 2 _ _ h, frozen_of_row w _ 3 _ _ h, frozen_of_row w _ 4 _ _ h, frozen_of_row w _ 5 _ _ h, frozen_of_row w _ 6 _ _ h, frozen_of_row w _ 7 _ _ h, frozen_of_row w _ 8 _ _ h, frozen_of_row w _ 9 _ _ h⟩
def put10 (w : World) (g : Nat) (v0 v1 v2 v3 v4 v5 v6 v7 v8 v9 : Value) : World := ((((((((((w.setCell ⟨g, 0, none⟩ v0).setCell ⟨g, 1, none⟩ v1).setCell ⟨g, 2, none⟩ v2).setCell ⟨g, 3, none⟩ v3).setCell ⟨g, 4, none⟩ v4).setCell ⟨g, 5, none⟩ v5).setCell ⟨g, 6, none⟩ v6).setCell ⟨g, 7, none⟩ v7).setCell ⟨g, 8, none⟩ v8).setCell ⟨g, 9, none⟩ v9)
theorem put10_row {w : World} {g : Nat} {a0 a1 a2 a3 a4 a5 a6 a7 a8 a9 : Value} {t : TypeId} (h : w.heap[g]? = some (.cells #[a0, a1, a2, a3, a4, a5, a6, a7, a8, a9] t)) (v0 v1 v2 v3 v4 v5 v6 v7 v8 v9 : Value) : (put10 w g v0 v1 v2 v3 v4 v5 v6 v7 v8 v9).heap[g]? = some (.cells #[v0, v1, v2, v3, v4, v5, v6, v7, v8, v9] t) := by
  have k0 : (w.setCell ⟨g, 0, none⟩ v0).heap[g]? = some (.cells #[v0, a1, a2, a3, a4, a5, a6, a7, a8, a9] t) := heap_setCell_same _ _ 0 _ _ v0 h
  have k1 : ((w.setCell ⟨g, 0, none⟩ v0).setCell ⟨g, 1, none⟩ v1).heap[g]? = some (.cells #[v0, v1, a2, a3, a4, a5, a6, a7, a8, a9] t) := heap_setCell_same _ _ 1 _ _ v1 k0
  have k2 : (((w.setCell ⟨g, 0, none⟩ v0).setCell ⟨g, 1, none⟩ v1).setCell ⟨g, 2, none⟩ v2).heap[g]? = some (.cells #[v0, v1, v2, a3, a4, a5, a6, a7, a8, a9] t) := heap_setCell_same _ _ 2 _ _ v2 k1
  have k3 : ((((w.setCell ⟨g, 0, none⟩ v0).setCell ⟨g, 1, none⟩ v1).setCell ⟨g, 2, none⟩ v2).setCell ⟨g, 3, none⟩ v3).heap[g]? = some (.cells #[v0, v1, v2, v3, a4, a5, a6, a7, a8, a9] t) := heap_setCell_same _ _ 3 _ _ v3 k2
  have k4 : (((((w.setCell ⟨g, 0, none⟩ v0).setCell ⟨g, 1, none⟩ v1).setCell ⟨g, 2, none⟩ v2).setCell ⟨g, 3, none⟩ v3).setCell ⟨g, 4, none⟩ v4).heap[g]? = some (.cells #[v0, v1, v2, v3, v4, a5, a6, a7, a8, a9] t) := heap_setCell_same _ _ 4 _ _ v4 k3
  have k5 : ((((((w.setCell ⟨g, 0, none⟩ v0).setCell ⟨g, 1, none⟩ v1).setCell ⟨g, 2, none⟩ v2).setCell ⟨g, 3, none⟩ v3).setCell ⟨g, 4, none⟩ v4).setCell ⟨g, 5, none⟩ v5).heap[g]? = some (.cells #[v0, v1, v2, v3, v4, v5, a6, a7, a8, a9] t) := heap_setCell_same _ _ 5 _ _ v5 k4
  have k6 : (((((((w.setCell ⟨g, 0, none⟩ v0).setCell ⟨g, 1, none⟩ v1).setCell ⟨g, 2, none⟩ v2).setCell ⟨g, 3, none⟩ v3).setCell ⟨g, 4, none⟩ v4).setCell ⟨g, 5, none⟩ v5).setCell ⟨g, 6, none⟩ v6).heap[g]? = some (.cells #[v0, v1, v2, v3, v4, v5, v6, a7, a8, a9] t) := heap_setCell_same _ _ 6 _ _ v6 k5
  have k7 : ((((((((w.setCell ⟨g, 0, none⟩ v0).setCell ⟨g, 1, none⟩ v1).setCell ⟨g, 2, none⟩ v2).setCell ⟨g, 3, none⟩ v3).setCell ⟨g, 4, none⟩ v4).setCell ⟨g, 5, none⟩ v5).setCell ⟨g, 6, none⟩ v6).setCell ⟨g, 7, none⟩ v7).heap[g]? = some (.cells #[v0, v1, v2, v3, v4, v5, v6, v7, a8, a9] t) := heap_setCell_same _ _ 7 _ _ v7 k6
  have k8 : (((((((((w.setCell ⟨g, 0, none⟩ v0).setCell ⟨g, 1, none⟩ v1).setCell ⟨g, 2, none⟩ v2).setCell ⟨g, 3, none⟩ v3).setCell ⟨g, 4, none⟩ v4).setCell ⟨g, 5, none⟩ v5).setCell ⟨g, 6, none⟩ v6).setCell ⟨g, 7, none⟩ v7).setCell ⟨g, 8, none⟩ v8).heap[g]? = some (.cells #[v0, v1, v2, v3, v4, v5, v6, v7, v8, a9] t) := heap_setCell_same _ _ 8 _ _ v8 k7
  have k9 : ((((((((((w.setCell ⟨g, 0, none⟩ v0).setCell ⟨g, 1, none⟩ v1).setCell ⟨g, 2, none⟩ v2).setCell ⟨g, 3, none⟩ v3).setCell ⟨g, 4, none⟩ v4).setCell ⟨g, 5, none⟩ v5).setCell ⟨g, 6, none⟩ v6).setCell ⟨g, 7, none⟩ v7).setCell ⟨g, 8, none⟩ v8).setCell ⟨g, 9, none⟩ v9).heap[g]? = some (.cells #[v0, v1, v2, v3, v4, v5, v6, v7, v8, v9] t) := heap_setCell_same _ _ 9 _ _ v9 k8
  exact k9
theorem put10_below {B : Nat} {u w : World} {g : Nat} (h : Below B u w) (hg : B ≤ g) (v0 v1 v2 v3 v4 v5 v6 v7 v8 v9 : Value) : Below B u (put10 w g v0 v1 v2 v3 v4 v5 v6 v7 v8 v9) := ((((((((((h.setCell hg _).setCell hg _).setCell hg _).setCell hg _).setCell hg _).setCell hg _).setCell hg _).setCell hg _).setCell hg _).setCell hg _)

theorem prof_ret' {fn : Func} {p : Tmp} {a : Act} {w w1 : World} {g : Nat} {n : Int} {v : Value} {nm hd : ByteArray} {b3 b4 b5 b6 b7 : Bool} (h : fn.results = #[.cell p 87])
    (hp : a.tmps.getD p undef = .pointer (some ⟨g, 0, none⟩)) (hg : w1.heap[g]? = some (.cells #[.string nm, .string hd, v, .bool b3, .bool b4, .bool b5, .bool b6, .bool b7] 87))
    (hv : prV n v = .agg #[.string nm, .string hd, v, .bool b3, .bool b4, .bool b5, .bool b6, .bool b7]) (hdef : a.defers = []) (hb : Below w.heap.size w w1) :
    bodyPost Tryd.prog fn (fun e w' => e = .returned (prV n v) ∧ Below w.heap.size w w') .ret a w1 :=
  bodyPost_ret (results_cell_row h _ _ g _ _ _ _ hp hg Tryd.underlying87 rfl (by kernel_rfl)) hdef ⟨by rw [hv], hb⟩

set_option maxHeartbeats 1000000 in
theorem impl_profileWithoutSets (n : Int) (w : World) (ht : TabSets w) (hn : proB n = true) : Calls Tryd.prog 101 #[.int .i64 n] w fun e w' => e = .returned (prV n (.slice none 0 0)) ∧ Below w.heap.size w w' := by
  have HT := Lib.hid ht
  have HE := Lib.hid (fun w ht => impl_EscapeOf 1 7 w ht)
  rw [head_kr] at HE
  clear ht
  rcases pro_cases hn with rfl | rfl | rfl | rfl | rfl
  · clear hn
    go_enter Tryd.func101, Tryd.ntmps101
    go_wp2
    exact prof_ret' (g := w.heap.size) rfl rfl (heap_alloc_new _ _) rfl rfl (below_one _ _)
  · clear hn
    go_enter Tryd.func101, Tryd.ntmps101
    go_wp2
    exact prof_ret' (g := w.heap.size) rfl rfl (heap_alloc_new _ _) rfl rfl (below_one _ _)
  · clear hn
    have B0 := Lib.hid (below_one w (.cells #[.string ⟨#[]⟩, .string ⟨#[]⟩, .slice none 0 0, .bool false, .bool false, .bool false, .bool false, .bool false] 87))
    have HT0 := Lib.hid (HT.out.keep B0.out)
    have S0 : Hid ((w.alloc (.cells #[.string ⟨#[]⟩, .string ⟨#[]⟩, .slice none 0 0, .bool false, .bool false, .bool false, .bool false, .bool false] 87)).heap[w.heap.size]? = some (.cells #[.string ⟨#[]⟩, .string ⟨#[]⟩, .slice none 0 0, .bool false, .bool false, .bool false, .bool false, .bool false] 87)) := Lib.hid (heap_alloc_new _ _)
    go_enter Tryd.func101, Tryd.ntmps101
    go_wp2_with fail
    refine (HE.out _ HT0.out).mono ?_
    generalize w.alloc (.cells #[.string ⟨#[]⟩, .string ⟨#[]⟩, .slice none 0 0, .bool false, .bool false, .bool false, .bool false, .bool false] 87) = W0 at *
    rintro e w1 ⟨rfl, b1⟩
    have hl := (Array.getElem?_eq_some_iff.1 S0.out).1
    have S1 := (b1.block _ hl).trans S0.out
    have ⟨c0, c1, c2, c3, c4, c5, c6, c7⟩ := row8_cells S1
    have ⟨f0, f1, f2, f3, f4, f5, f6, f7⟩ := row8_thaw S1
    have B1 : Hid (Below w.heap.size w w1) := Lib.hid (B0.out.trans (b1.mono B0.out.size))
    have HS1 := Lib.hid S1
    have hl1 : w.heap.size < w1.heap.size := (Array.getElem?_eq_some_iff.1 S1).1
    clear S1 S0 b1 hl
    go_wp2
    exact prof_ret' (g := w.heap.size) rfl rfl (put8_row HS1.out (.string ⟨#[107, 114]⟩) (.string ⟨#[27, 36, 41, 67]⟩) (.slice none 0 0) (.bool false) (.bool true) (.bool false) (.bool true) (.bool false)) rfl rfl (put8_below B1.out (Nat.le_refl _) _ _ _ _ _ _ _ _)
  · clear hn
    go_enter Tryd.func101, Tryd.ntmps101
    go_wp2
    exact prof_ret' (g := w.heap.size) rfl rfl (heap_alloc_new _ _) rfl rfl (below_one _ _)
  · clear hn
    go_enter Tryd.func101, Tryd.ntmps101
    go_wp2
    exact prof_ret' (g := w.heap.size) rfl rfl (heap_alloc_new _ _) rfl rfl (below_one _ _)

/-- A guide's cells. -/
def guV (n : Int) (m : Value) : Value := .agg #[.int .i64 n, .string (prName n), .string (prHead n), .slice none 0 0, .bool (prRight n), .bool (prShifts n), .bool (prSingle n), .bool (prReset n), .bool (prClear n), m]
set_option maxHeartbeats 1000000 in
theorem impl_guideOf (n : Int) (w : World) (ht : TabSets w) (hn : proB n = true) : Calls Tryd.prog 64 #[.int .i64 n] w fun e w' => e = .returned (guV n (.map none)) ∧ Below w.heap.size w w' := by
  have HP := Lib.hid (fun w ht => impl_profileWithoutSets n w ht hn)
  have HT := Lib.hid ht
  clear ht
  unfold prV at HP
  have B0 := Lib.hid (below_one w (.cells #[.int .i64 0, .string ⟨#[]⟩, .string ⟨#[]⟩, .slice none 0 0, .bool false, .bool false, .bool false, .bool false, .bool false, .map none] 90))
  have HT0 := Lib.hid (HT.out.keep B0.out)
  have S0 : Hid ((w.alloc (.cells #[.int .i64 0, .string ⟨#[]⟩, .string ⟨#[]⟩, .slice none 0 0, .bool false, .bool false, .bool false, .bool false, .bool false, .map none] 90)).heap[w.heap.size]? = some (.cells #[.int .i64 0, .string ⟨#[]⟩, .string ⟨#[]⟩, .slice none 0 0, .bool false, .bool false, .bool false, .bool false, .bool false, .map none] 90)) := Lib.hid (heap_alloc_new _ _)
  go_enter Tryd.func64, Tryd.ntmps64
  go_wp2_with fail
  refine (HP.out _ HT0.out).mono ?_
  generalize w.alloc (.cells #[.int .i64 0, .string ⟨#[]⟩, .string ⟨#[]⟩, .slice none 0 0, .bool false, .bool false, .bool false, .bool false, .bool false, .map none] 90) = W0 at *
  rintro e w1 ⟨rfl, b1⟩
  have hl := (Array.getElem?_eq_some_iff.1 S0.out).1
  have S1 := (b1.block _ hl).trans S0.out
  have ⟨c0, c1, c2, c3, c4, c5, c6, c7, c8, c9⟩ := row10_cells S1
  have ⟨f0, f1, f2, f3, f4, f5, f6, f7, f8, f9⟩ := row10_thaw S1
  have B1 : Hid (Below w.heap.size w w1) := Lib.hid (B0.out.trans (b1.mono B0.out.size))
  have HS1 := Lib.hid S1
  have hl1 : w.heap.size < w1.heap.size := (Array.getElem?_eq_some_iff.1 S1).1
  clear S1 S0 b1 hl
  go_wp2
  exact bodyPost_ret (results_cell_row rfl _ _ w.heap.size _ _ _ _ rfl (put10_row HS1.out (.int .i64 n) (.string (prName n)) (.string (prHead n)) (.slice none 0 0) (.bool (prRight n)) (.bool (prShifts n)) (.bool (prSingle n)) (.bool (prReset n)) (.bool (prClear n)) (.map none)) Tryd.underlying90 rfl (by kernel_rfl)) rfl ⟨rfl, put10_below B1.out (Nat.le_refl _) _ _ _ _ _ _ _ _ _ _⟩

/-- A guide in a block, with what stands in its last cell. -/
def GuAt (w : World) (g : Nat) (n : Int) (m : Value) : Prop := w.heap[g]? = some (.cells #[.int .i64 n, .string (prName n), .string (prHead n), .slice none 0 0, .bool (prRight n), .bool (prShifts n), .bool (prSingle n), .bool (prReset n), .bool (prClear n), m] 90)
theorem GuAt.lt {w : World} {g : Nat} {n : Int} {m : Value} (h : GuAt w g n m) : g < w.heap.size := (Array.getElem?_eq_some_iff.1 h).1
theorem GuAt.keep {w w' : World} {g : Nat} {n : Int} {m : Value} (h : GuAt w g n m) (b : Below w.heap.size w w') : GuAt w' g n m := (b.block g h.lt).trans h

set_option maxHeartbeats 1000000 in
theorem impl_atRest (n : Int) (x : St) (m : Value) (g b : Nat) (w : World) (hg : GuAt w g n m) (hm : MAt w b x) (hx : stOKB x = true) : Calls Tryd.prog 128 #[.pointer (some ⟨g, 0, none⟩), .pointer (some ⟨b, 0, none⟩)] w fun e w' => e = .returned (.bool (restB n x)) ∧ w = w' := by
  have HP := Lib.hid (fun w h => impl_pending x b w h)
  rw [pend_eq hx] at HP
  have HR : Hid (restB n x = (!pendB x && (!prReset n || (decide (x.l = 0) && decide (x.g0 = 1))))) := Lib.hid rfl
  have HM := Lib.hid hm
  have ⟨c0, c1, c2, c3, c4, c5, c6, c7, c8, c9⟩ := row10_cells hg
  have ⟨y0, y1, y2, y3, y4, y5, y6⟩ := hm.cells
  clear c0 c1 c2 c3 c4 c5 c6 c8 c9 hg hm hx y1 y2 y3 y5 y6
  generalize restB n x = q at *
  cases hp : pendB x
  · rw [hp] at HP HR
    cases hr : prReset n
    · have HE : Hid (q = true) := Lib.hid (by rw [HR.out, hr]; rfl)
      rw [hr] at c7
      clear hr hp
      go_enter Tryd.func128, Tryd.ntmps128
      go_wp2_with fail
      refine (HP.out _ HM.out).mono ?_
      rintro e w1 ⟨rfl, rfl⟩
      go_wp2
      go_ret
      exact ⟨ret_bool HE.out.symm, rfl⟩
    · rw [hr] at c7
      by_cases hl : x.l = 0
      · have HE : Hid (q = (x.g0 == 1)) := Lib.hid (by rw [HR.out, hr, show decide (x.l = 0) = true by simpa using hl]; rfl)
        have el : (x.l == 0) = true := by simp [hl]
        clear hl hr hp
        go_enter Tryd.func128, Tryd.ntmps128
        go_wp2_with fail
        refine (HP.out _ HM.out).mono ?_
        rintro e w1 ⟨rfl, rfl⟩
        go_wp2
        go_ret
        exact ⟨ret_bool HE.out.symm, rfl⟩
      · have HE : Hid (q = false) := Lib.hid (by rw [HR.out, hr, show decide (x.l = 0) = false by simpa using hl]; rfl)
        have el : (x.l == 0) = false := by simp [hl]
        clear hr hp
        go_enter Tryd.func128, Tryd.ntmps128
        go_wp2_with fail
        refine (HP.out _ HM.out).mono ?_
        rintro e w1 ⟨rfl, rfl⟩
        go_wp2
        go_ret
        exact ⟨ret_bool HE.out.symm, rfl⟩
  · have HE : Hid (q = false) := Lib.hid (by rw [HR.out, hp]; rfl)
    rw [hp] at HP
    clear hp
    go_enter Tryd.func128, Tryd.ntmps128
    go_wp2_with fail
    refine (HP.out _ HM.out).mono ?_
    rintro e w1 ⟨rfl, rfl⟩
    go_wp2
    go_ret
    exact ⟨ret_bool HE.out.symm, rfl⟩

end Go.Proofs.YtibadnfagoehmaaDoor

namespace Go.Proofs.YtibadnfagoehmaaDoor
open Go.RowKit

/-- The place of n among count numbers from first on. -/
def placeV (first count n : Int) : Value := if inB n first (first + count - 1) = true then .tuple #[.int .i64 (n - first), .bool true] else .tuple #[.int .i64 0, .bool false]
theorem impl_placeIn (first count n : Int) (w : World) (h1 : 0 ≤ first) (h2 : first ≤ 2000000) (_h3 : 0 ≤ count) (_h4 : count ≤ 2000000) (hu : n ≤ 9223372036854775807) :
    Calls Tryd.prog 127 #[.int .i64 first, .int .i64 count, .int .i64 n] w fun e w' => e = .returned (placeV first count n) ∧ w = w' := by
  by_cases a1 : n < first
  · have HE : Hid (placeV first count n = .tuple #[.int .i64 0, .bool false]) := Lib.hid (by rw [placeV, inB_false_of (by omega)]; simp)
    go_enter Tryd.func127, Tryd.ntmps127
    go_wp2
    go_ret2
    exact ⟨ret_val HE.out.symm, rfl⟩
  · have u1 : IntKind.i64.wrap (n - first) = n - first := IntWalk.i64_in _ (by omega)
    by_cases a2 : count ≤ n - first
    · have HE : Hid (placeV first count n = .tuple #[.int .i64 0, .bool false]) := Lib.hid (by rw [placeV, inB_false_of (by omega)]; simp)
      go_enter Tryd.func127, Tryd.ntmps127
      go_wp2
      go_ret2
      exact ⟨ret_val HE.out.symm, rfl⟩
    · have HE : Hid (placeV first count n = .tuple #[.int .i64 (n - first), .bool true]) := Lib.hid (by
        have : inB n first (first + count - 1) = true := by simp [inB]; omega
        rw [placeV, this]; simp)
      go_enter Tryd.func127, Tryd.ntmps127
      go_wp2
      go_ret2
      exact ⟨ret_val HE.out.symm, rfl⟩

theorem SpAt.open {w : World} {v : Value} {n : Int} (h : SpAt w v (setSpans n)) : ∃ g off c, v = .slice (some ⟨g, off, none⟩) (setSpans n).length c ∧ ∀ i (h : i < (setSpans n).length),
    w.cell? ⟨g, off + i * 3, none⟩ = some (.int .i64 ((setSpans n)[i]).1) ∧ w.cell? ⟨g, off + i * 3 + 1, none⟩ = some (.int .i64 ((setSpans n)[i]).2.1) ∧ w.cell? ⟨g, off + i * 3 + 2, none⟩ = some (.int .i64 ((setSpans n)[i]).2.2) := by
  rcases h with ⟨h0, _⟩ | h
  · have := (set_few n).1
    rw [h0] at this
    simp at this
  · exact h

/-- Each span begins above nought. -/
theorem set_pos (n : Int) : ∀ s ∈ setSpans n, 0 < s.1 := by
  unfold setSpans
  repeat' split
  all_goals (intro s hs; simp only [List.mem_cons, List.not_mem_nil, or_false] at hs; rcases hs with rfl | rfl | rfl | rfl <;> simp)

set_option maxHeartbeats 1000000 in
set_option maxRecDepth 100000 in
theorem impl_RuneFor (n code : Int) (w : World) (ht : TabSets w) (hl : -9223372036854775808 ≤ code) (hu : code ≤ 9223372036854775807) : Calls Tryd.prog 118 #[.int .i64 n, .int .i64 code] w fun e w' => e = .returned (rfV n code) ∧ Below w.heap.size w w' := by
  cases hn : setB n
  · have HE := Lib.hid (rfV_bad n code 5 (by simp [rfC, hn]) (by decide))
    clear ht
    go_enter Tryd.func118, Tryd.ntmps118
    go_wp2_with fail
    refine (impl_isSet n w).mono ?_
    rintro e w1 ⟨rfl, rfl⟩
    rw [hn]
    go_wp2
    go_ret2
    exact ⟨ret_val HE.out.symm, Below.refl _ _⟩
  · have HO : Hid (codeOKB n code = isCodeB (setKind n) code) := Lib.hid (by simp [codeOKB, isCodeB, hn])
    obtain ⟨k, rfl, k1, k8⟩ := setB_nat hn
    obtain ⟨_, c1, _, v, c3, hs⟩ := ht k k1 k8
    have hk := setKind_cases (k : Int)
    clear ht
    have u1 : (0 : Int) ≤ (k : Int) := by omega
    have u2 : (k : Int) < 9 := by omega
    generalize hkd : setKind (k : Int) = kd at *
    cases hc : isCodeB kd code
    · have HE := Lib.hid (rfV_bad (k : Int) code 4 (by simp [rfC, hn, HO.out, hc]) (by decide))
      clear hkd hs c3
      go_enter Tryd.func118, Tryd.ntmps118
      go_wp2_with fail
      refine (impl_isSet (k : Int) w).mono ?_
      rintro e w1 ⟨rfl, rfl⟩
      rw [hn]
      go_wp2_with fail
      refine (impl_isCode kd code w hk hl hu).mono ?_
      rintro e w1 ⟨rfl, rfl⟩
      rw [hc]
      go_wp2
      go_ret2
      exact ⟨ret_val HE.out.symm, Below.refl _ _⟩
    · have HB : Hid (runeS (setSpans (k : Int)) code < 0 → rfV (k : Int) code = .tuple #[.int .i64 0, .int .i64 12]) := Lib.hid (fun h => rfV_bad (k : Int) code 12 (by simp [rfC, hn, HO.out, hc, h]) (by decide))
      have HG : Hid (¬ runeS (setSpans (k : Int)) code < 0 → rfV (k : Int) code = .tuple #[.int .i64 (runeS (setSpans (k : Int)) code), .int .i64 0]) := Lib.hid (fun h => rfV_ok (k : Int) code (by simp [rfC, hn, HO.out, hc, h]))
      obtain ⟨g, off, c, rfl, hcs⟩ := hs.open
      have HC := Lib.hid hcs
      have HS := Lib.hid (set_small (k : Int))
      have f2 := (set_few (k : Int)).2
      clear hkd hs hcs
      generalize setSpans (k : Int) = sp at *
      go_enter Tryd.func118, Tryd.ntmps118
      go_wp2_with fail
      refine (impl_isSet (k : Int) w).mono ?_
      rintro e w1 ⟨rfl, rfl⟩
      rw [hn]
      go_wp2_with fail
      refine (impl_isCode kd code w hk hl hu).mono ?_
      rintro e w1 ⟨rfl, rfl⟩
      rw [hc]
      go_wp2
      go_loopw [25] (fun i wr => ∃ j : Nat, j ≤ sp.length ∧ i = .int .i64 j ∧ Hid (runeS sp code = runeS (sp.drop j) code) ∧ Below w.heap.size w wr) (fun i _ => sp.length - (intOf i).toNat)
      case atStart => exact ⟨0, Nat.zero_le _, rfl, Lib.hid rfl, Below.refl _ _⟩
      case round =>
        obtain ⟨j, hj, rfl, HR, b⟩ := hrel
        by_cases hlt : j < sp.length
        · have ⟨x0, x1, x2⟩ := HC.out j hlt
          have hsm := HS.out _ (List.getElem_mem hlt)
          have HD := Lib.hid (runeS_drop sp code j hlt)
          have y0 := (b.cell (World.block_lt_of_cell? w _ x0)).trans x0
          have y1 := (b.cell (World.block_lt_of_cell? w _ x1)).trans x1
          have y2 := (b.cell (World.block_lt_of_cell? w _ x2)).trans x2
          generalize sp[j] = s at *
          obtain ⟨sc, sr, sn⟩ := s
          obtain ⟨⟨a1, a2⟩, ⟨a3, a4⟩, a5, a6⟩ := hsm
          simp only at a1 a2 a3 a4 a5 a6 y0 y1 y2
          clear x0 x1 x2
          have v1 : (0 : Int) ≤ (j : Int) := by omega
          have v2 : (j : Int) < (sp.length : Int) := by omega
          go_wp2_with fail
          refine (impl_placeIn sc sn code _ a1 a2 a5 a6 hu).mono ?_
          rintro e w2 ⟨rfl, rfl⟩
          unfold placeV
          have B := b.alloc b.size (.cells #[.int .i64 sc, .int .i64 sr, .int .i64 sn] 133)
          cases hin : inB code sc (sc + sn - 1)
          · have HX : Hid (runeS sp code = runeS (sp.drop (j + 1)) code) := Lib.hid (by rw [HR.out, HD.out, hin]; simp)
            go_wp2
            go_roundw
            case rel => exact ⟨j + 1, by omega, by go_num, HX, B⟩
            case measure => simp [intOf]; omega
          · have ⟨i1, i2⟩ := inB_true hin
            have v5 : IntKind.i64.wrap (sr + (code - sc)) = sr + (code - sc) := IntWalk.i64_in _ (by omega)
            have HX : Hid (runeS sp code = sr + (code - sc)) := Lib.hid (by rw [HR.out, HD.out, hin]; simp; omega)
            go_wp2
            go_ret2
            refine ⟨ret_val ?_, B⟩
            rw [HG.out (by rw [HX.out]; omega), HX.out]
            rfl
        · go_wp2
          go_ret2
          refine ⟨ret_val ?_, b⟩
          have hjn : sp.length ≤ j := by omega
          rw [HB.out (by rw [HR.out, List.drop_eq_nil_of_le hjn, runeS]; decide)]
          rfl

set_option maxHeartbeats 1000000 in
set_option maxRecDepth 100000 in
theorem impl_CodeFor (n r : Int) (w : World) (ht : TabSets w) (hu : r ≤ 9223372036854775807) : Calls Tryd.prog 104 #[.int .i64 n, .int .i64 r] w fun e w' => e = .returned (cfV n r) ∧ Below w.heap.size w w' := by
  cases hn : setB n
  · have HE := Lib.hid (cfV_bad n r 5 (by simp [cfC, hn]) (by decide))
    clear ht
    go_enter Tryd.func104, Tryd.ntmps104
    go_wp2_with fail
    refine (impl_isSet n w).mono ?_
    rintro e w1 ⟨rfl, rfl⟩
    rw [hn]
    go_wp2
    go_ret2
    exact ⟨ret_val HE.out.symm, Below.refl _ _⟩
  · obtain ⟨k, rfl, k1, k8⟩ := setB_nat hn
    obtain ⟨_, _, _, v, c3, hs⟩ := ht k k1 k8
    clear ht
    have u1 : (0 : Int) ≤ (k : Int) := by omega
    have u2 : (k : Int) < 9 := by omega
    have HB : Hid (codeS (setSpans (k : Int)) r = 0 → cfV (k : Int) r = .tuple #[.int .i64 0, .int .i64 12]) := Lib.hid (fun h => cfV_bad (k : Int) r 12 (by simp [cfC, hn, h]) (by decide))
    have HG : Hid (codeS (setSpans (k : Int)) r ≠ 0 → cfV (k : Int) r = .tuple #[.int .i64 (codeS (setSpans (k : Int)) r), .int .i64 0]) := Lib.hid (fun h => cfV_ok (k : Int) r (by simp [cfC, hn, h]))
    obtain ⟨g, off, c, rfl, hcs⟩ := hs.open
    have HC := Lib.hid hcs
    have HS := Lib.hid (set_small (k : Int))
    have HP := Lib.hid (set_pos (k : Int))
    have f2 := (set_few (k : Int)).2
    clear hs hcs
    generalize setSpans (k : Int) = sp at *
    go_enter Tryd.func104, Tryd.ntmps104
    go_wp2_with fail
    refine (impl_isSet (k : Int) w).mono ?_
    rintro e w1 ⟨rfl, rfl⟩
    rw [hn]
    go_wp2
    go_loopw [18] (fun i wr => ∃ j : Nat, j ≤ sp.length ∧ i = .int .i64 j ∧ Hid (codeS sp r = codeS (sp.drop j) r) ∧ Below w.heap.size w wr) (fun i _ => sp.length - (intOf i).toNat)
    case atStart => exact ⟨0, Nat.zero_le _, rfl, Lib.hid rfl, Below.refl _ _⟩
    case round =>
      obtain ⟨j, hj, rfl, HR, b⟩ := hrel
      by_cases hlt : j < sp.length
      · have ⟨x0, x1, x2⟩ := HC.out j hlt
        have hsm := HS.out _ (List.getElem_mem hlt)
        have hps := HP.out _ (List.getElem_mem hlt)
        have HD := Lib.hid (codeS_drop sp r j hlt)
        have y0 := (b.cell (World.block_lt_of_cell? w _ x0)).trans x0
        have y1 := (b.cell (World.block_lt_of_cell? w _ x1)).trans x1
        have y2 := (b.cell (World.block_lt_of_cell? w _ x2)).trans x2
        generalize sp[j] = s at *
        obtain ⟨sc, sr, sn⟩ := s
        obtain ⟨⟨a1, a2⟩, ⟨a3, a4⟩, a5, a6⟩ := hsm
        simp only at a1 a2 a3 a4 a5 a6 y0 y1 y2 hps
        clear x0 x1 x2
        have v1 : (0 : Int) ≤ (j : Int) := by omega
        have v2 : (j : Int) < (sp.length : Int) := by omega
        go_wp2_with fail
        refine (impl_placeIn sr sn r _ a3 a4 a5 a6 hu).mono ?_
        rintro e w2 ⟨rfl, rfl⟩
        unfold placeV
        have B := b.alloc b.size (.cells #[.int .i64 sc, .int .i64 sr, .int .i64 sn] 133)
        cases hin : inB r sr (sr + sn - 1)
        · have HX : Hid (codeS sp r = codeS (sp.drop (j + 1)) r) := Lib.hid (by rw [HR.out, HD.out, hin]; simp)
          go_wp2
          go_roundw
          case rel => exact ⟨j + 1, by omega, by go_num, HX, B⟩
          case measure => simp [intOf]; omega
        · have ⟨i1, i2⟩ := inB_true hin
          have v5 : IntKind.i64.wrap (sc + (r - sr)) = sc + (r - sr) := IntWalk.i64_in _ (by omega)
          have HX : Hid (codeS sp r = sc + (r - sr)) := Lib.hid (by rw [HR.out, HD.out, hin]; simp; omega)
          go_wp2
          go_ret2
          refine ⟨ret_val ?_, B⟩
          rw [HG.out (by rw [HX.out]; omega), HX.out]
          rfl
      · go_wp2
        go_ret2
        refine ⟨ret_val ?_, b⟩
        have hjn : sp.length ≤ j := by omega
        rw [HB.out (by rw [HR.out, List.drop_eq_nil_of_le hjn]; rfl)]
        rfl

end Go.Proofs.YtibadnfagoehmaaDoor

namespace Go.Proofs.YtibadnfagoehmaaDoor
open Go.RowKit Go.Sort

/-- What the machine's methods tell of a step. -/
def toldR (p : Stp) : Int := if 0 ≤ p.r then p.r else 0
def toldB (p : Stp) : Bool := decide (0 ≤ p.r)
def mvV (p : Stp) : Value := .tuple #[.int .i64 (toldR p), .bool (toldB p), .int .i64 p.c]
def MvDone (p : Stp) (b : Nat) (w : World) (e : Ending) (w' : World) : Prop := e = .returned (mvV p) ∧ MAt w' b p.y ∧ Only b w w'
theorem mv_none {p : Stp} {y : St} {c : Int} (h : p = ⟨y, -1, c⟩) : mvV p = .tuple #[.int .i64 0, .bool false, .int .i64 c] := by rw [h]; rfl
theorem mv_some {p : Stp} {y : St} {r c : Int} (h : p = ⟨y, r, c⟩) (hr : 0 ≤ r) : mvV p = .tuple #[.int .i64 r, .bool true, .int .i64 c] := by
  rw [h]; unfold mvV toldR toldB; dsimp only; rw [if_pos hr, decide_eq_true hr]
theorem only_below {b : Nat} {w w' : World} (hb : b < w.heap.size) (h : Below w.heap.size w w') : Only b w w' := ⟨h.mono (by omega), fun g _ hg => h.block g hg⟩
theorem mvDone_none {x : St} {p : Stp} {b : Nat} {w w' : World} {c : Int} (h : p = ⟨x, -1, c⟩) (hm : MAt w b x) (hb : Below w.heap.size w w') : MvDone p b w (.returned (.tuple #[.int .i64 0, .bool false, .int .i64 c])) w' :=
  ⟨by rw [mv_none h], by rw [h]; exact hm.keep hb, only_below hm.lt hb⟩

theorem mvDone_gone {x : St} {p : Stp} {b : Nat} {w w' : World} {rr : Int} (h : p = ⟨⟨x.g0, x.g1, x.g2, x.g3, x.l, 0, 0⟩, rr, 0⟩) (hr : 0 ≤ rr) (hm : MAt w b x) (hb : Below w.heap.size w w') : MvDone p b w (.returned (.tuple #[.int .i64 rr, .bool true, .int .i64 0])) ((w'.setCell ⟨b, 5, none⟩ (.int .i64 0)).setCell ⟨b, 6, none⟩ (.int .i64 0)) :=
  ⟨by rw [mv_some h hr], by rw [h]; exact heap_setCell_same _ _ 6 _ _ (.int .i64 0) (heap_setCell_same _ _ 5 _ _ (.int .i64 0) (hm.keep hb)), ((only_below hm.lt hb).trans (Only.set b 5 _ _)).trans (Only.set b 6 _ _)⟩
theorem mvDone_lead {x : St} {p : Stp} {b : Nat} {w w' : World} {v : Int} (h : p = ⟨⟨x.g0, x.g1, x.g2, x.g3, x.l, x.s, v⟩, -1, 0⟩) (hm : MAt w b x) (hb : Below w.heap.size w w') : MvDone p b w (.returned (.tuple #[.int .i64 0, .bool false, .int .i64 0])) (w'.setCell ⟨b, 6, none⟩ (.int .i64 v)) :=
  ⟨by rw [mv_none h], by rw [h]; exact heap_setCell_same _ _ 6 _ _ (.int .i64 v) (hm.keep hb), (only_below hm.lt hb).trans (Only.set b 6 _ _)⟩

/-- The lead's half. -/
theorem half_lead {x : St} (h : leadOK x = true) (h0 : x.d ≠ 0) : halfN x.d = sideNo (decide (128 < x.d)) := by
  unfold leadOK at h
  rw [Bool.or_eq_true, decide_eq_true_eq, Bool.and_eq_true, Bool.and_eq_true] at h
  rcases h with h | ⟨h1, h2, _⟩
  · exact absurd h h0
  have ⟨a, b⟩ := inB_true h1
  have ⟨c, d⟩ := inB_true h2
  rw [Int.tmod_eq_emod_of_nonneg (by omega)] at a b
  unfold halfN sideNo
  by_cases h3 : 128 < x.d
  · rw [if_pos (by omega), if_pos (by simpa using h3)]
  · rw [if_neg (by omega), if_neg (by simpa using h3)]

/-- RuneFor's code, where the set is one and the code no negative number. -/
theorem rf_told {q A : Int} (hq : setB q = true) (hA : 0 ≤ A) (x : St) : (rfC q A = 0 → gLast x q A = ⟨⟨x.g0, x.g1, x.g2, x.g3, x.l, 0, 0⟩, rfR q A, 0⟩ ∧ 0 ≤ rfR q A) ∧ (rfC q A ≠ 0 → gLast x q A = ⟨x, -1, 12⟩) := by
  have hk : codeOKB q A = kindB (setKind q) A := by unfold codeOKB; rw [hq, decide_eq_true hA]; rfl
  constructor
  · intro h
    have hr : rfR q A = runeS (setSpans q) A := by rw [rfR, if_pos h]
    unfold rfC at h
    rw [if_pos hq, hk] at h
    split at h
    · split at h
      · cases h
      · next h1 h2 =>
        rw [hr]
        exact ⟨by rw [gLast, if_pos ⟨h1, by omega⟩], by omega⟩
    · cases h
  · intro h
    unfold rfC at h
    rw [if_pos hq, hk] at h
    unfold gLast
    split
    · next h1 => rw [if_pos h1.1, if_neg (by omega)] at h; exact absurd rfl h
    · rfl

set_option maxHeartbeats 1000000 in
set_option maxRecDepth 100000 in
theorem impl_take (x : St) (b : Nat) (r : Bool) (a : Int) (w : World) (h : MAt w b x) (ht : TabM w) (hx : stOKB x = true) (a0 : 0 ≤ a) (a1 : a ≤ 255) : Calls Tryd.prog 85 #[.pointer (some ⟨b, 0, none⟩), .int .i64 (sideNo r), .int .i64 a] w (MvDone (graphic x a r) b w) := by
  obtain ⟨h1, h2, h3⟩ := stOK_parts hx
  have ⟨d0, d1⟩ := lead_range h3
  have HL := Lib.hid (half_lead h3)
  have hs : (sideNo r == 128) = r := by cases r <;> rfl
  have HF := Lib.hid (fun w h => impl_setFor x b (sideNo r) w h h2)
  rw [hs] at HF
  obtain ⟨k, hk, k8⟩ := setAt_nat h1 r
  rw [hk] at HF
  have HG : Hid (graphic x a r = if (k : Int) = 0 then ⟨x, -1, 17⟩
    else if setKind k = 3 then
      if 0 < x.d ∧ decide (128 < x.d) ≠ r then ⟨x, -1, 13⟩ else if inB a 33 126 = false then ⟨x, -1, 12⟩ else if x.d = 0 then ⟨⟨x.g0, x.g1, x.g2, x.g3, x.l, x.s, a + sideNo r⟩, -1, 0⟩
      else gLast x k (a + (x.d - sideNo r) * 256)
    else gLast x k a) := Lib.hid (by
      have hk' : stGet x (sideOf x r) = (k : Int) := hk
      rw [graphic, hk'])
  have HM := Lib.hid h
  have HT := Lib.hid ht
  have hb : b < w.heap.size := h.lt
  clear h ht hx h1 h2 h3 hk hs
  by_cases k0 : k = 0
  · subst k0
    have HE : Hid (graphic x a r = ⟨x, -1, 17⟩) := Lib.hid (by rw [HG.out, if_pos (show ((0 : Nat) : Int) = 0 from rfl)])
    go_enter Tryd.func85, Tryd.ntmps85
    go_wp2_with fail
    refine (HF.out w HM.out).mono ?_
    rintro e w1 ⟨rfl, b1⟩
    go_wp2
    go_ret3
    exact mvDone_none HE.out HM.out b1
  have kz : ¬ (k : Int) = 0 := by omega
  have ek : ((k : Int) == 0) = false := by rw [beq_eq_false_iff_ne]; exact kz
  have hsb : setB (k : Int) = true := by simp [setB, inB]; omega
  have u1 : (0 : Int) ≤ (k : Int) := by omega
  have u2 : (k : Int) < 9 := by omega
  by_cases k3 : setKind (k : Int) = 3
  · have HK : Hid (kind0 (k : Int) = 3) := Lib.hid (by rw [kind0, if_neg kz, k3])
    have HC := Lib.hid (fun w => impl_isCode94 a w)
    have hv : sideNo r = 0 ∨ sideNo r = 128 := by cases r <;> simp [sideNo]
    by_cases z : x.d = 0
    · have HW : Hid (¬ (0 < x.d ∧ decide (128 < x.d) ≠ r)) := Lib.hid (fun h => by omega)
      have ez : (x.d != 0) = false := by simp [z]
      have ez2 : (x.d == 0) = true := by simpa using z
      cases hin : inB a 33 126
      · have HE : Hid (graphic x a r = ⟨x, -1, 12⟩) := Lib.hid (by rw [HG.out, if_neg kz, if_pos k3, if_neg HW.out, if_pos hin])
        rw [hin] at HC
        clear HG HL z k3 kz hsb
        go_enter Tryd.func85, Tryd.ntmps85
        go_wp2_with fail
        refine (HF.out w HM.out).mono ?_
        rintro e w1 ⟨rfl, b1⟩
        have c1 := (HT.out.keep b1).kind k k8
        rw [HK.out] at c1
        have HM1 := Lib.hid (HM.out.keep b1)
        have ⟨y0, y1, y2, y3, y4, y5, y6⟩ := HM1.out.cells
        go_wp2_with fail
        refine (HC.out w1).mono ?_
        rintro e w2 ⟨rfl, rfl⟩
        go_wp2
        go_ret3
        exact mvDone_none HE.out HM.out b1
      · have HE : Hid (graphic x a r = ⟨⟨x.g0, x.g1, x.g2, x.g3, x.l, x.s, sideNo r + a⟩, -1, 0⟩) := Lib.hid (by rw [HG.out, if_neg kz, if_pos k3, if_neg HW.out, if_neg (by rw [hin]; decide), if_pos z, Int.add_comm])
        have uw : IntKind.i64.wrap (sideNo r + a) = sideNo r + a := IntWalk.i64_in _ (by omega)
        rw [hin] at HC
        clear HG HL z k3 kz hsb hv
        go_enter Tryd.func85, Tryd.ntmps85
        go_wp2_with fail
        refine (HF.out w HM.out).mono ?_
        rintro e w1 ⟨rfl, b1⟩
        have c1 := (HT.out.keep b1).kind k k8
        rw [HK.out] at c1
        have HM1 := Lib.hid (HM.out.keep b1)
        have ⟨y0, y1, y2, y3, y4, y5, y6⟩ := HM1.out.cells
        go_wp2_with fail
        refine (HC.out w1).mono ?_
        rintro e w2 ⟨rfl, rfl⟩
        have ⟨q0, q1, q2, q3, q4, q5, q6⟩ := HM1.out.thaw
        have hl2 : b < w1.heap.size := HM1.out.lt
        go_wp2
        go_ret3
        exact mvDone_lead HE.out HM.out b1
    · have hpos : 0 < x.d := by omega
      have ez : (x.d != 0) = true := by simpa using z
      have ez2 : (x.d == 0) = false := by rw [beq_eq_false_iff_ne]; exact z
      have HH := Lib.hid (fun w => impl_halfOf x.d w)
      rw [HL.out z] at HH
      cases hd : (sideNo (decide (128 < x.d)) != sideNo r)
      · have hd2 : decide (128 < x.d) = r := by
          cases h : decide (128 < x.d) <;> cases r <;> rw [h] at hd <;> first | rfl | (revert hd; decide)
        have HW : Hid (¬ (0 < x.d ∧ decide (128 < x.d) ≠ r)) := Lib.hid (fun h => h.2 hd2)
        have hdr : 128 ≤ x.d ∨ sideNo r = 0 := by
          cases r
          · exact .inr rfl
          · have := of_decide_eq_true hd2; exact .inl (by omega)
        generalize sideNo (decide (128 < x.d)) = hf at *
        cases hin : inB a 33 126
        · have HE : Hid (graphic x a r = ⟨x, -1, 12⟩) := Lib.hid (by rw [HG.out, if_neg kz, if_pos k3, if_neg HW.out, if_pos hin])
          rw [hin] at HC
          clear HG HL z k3 kz hsb hd2
          go_enter Tryd.func85, Tryd.ntmps85
          go_wp2_with fail
          refine (HF.out w HM.out).mono ?_
          rintro e w1 ⟨rfl, b1⟩
          have c1 := (HT.out.keep b1).kind k k8
          rw [HK.out] at c1
          have HM1 := Lib.hid (HM.out.keep b1)
          have ⟨y0, y1, y2, y3, y4, y5, y6⟩ := HM1.out.cells
          go_wp2_with fail
          refine (HH.out w1).mono ?_
          rintro e w2 ⟨rfl, rfl⟩
          go_wp2_with fail
          refine (HC.out w1).mono ?_
          rintro e w2 ⟨rfl, rfl⟩
          go_wp2
          go_ret3
          exact mvDone_none HE.out HM.out b1
        · have HE : Hid (graphic x a r = gLast x k ((x.d - sideNo r) * 256 + a)) := Lib.hid (by rw [HG.out, if_neg kz, if_pos k3, if_neg HW.out, if_neg (by rw [hin]; decide), if_neg z, Int.add_comm])
          have hA : 0 ≤ (x.d - sideNo r) * 256 + a := by omega
          have HR := Lib.hid (rf_told hsb hA x)
          have HU := Lib.hid (fun w ht => impl_RuneFor (k : Int) ((x.d - sideNo r) * 256 + a) w ht (by omega) (by omega))
          have uw1 : IntKind.i64.wrap (x.d - sideNo r) = x.d - sideNo r := IntWalk.i64_in _ (by omega)
          have uw2 : IntKind.i64.wrap ((x.d - sideNo r) * 256) = (x.d - sideNo r) * 256 := IntWalk.i64_in _ (by omega)
          have uw3 : IntKind.i64.wrap ((x.d - sideNo r) * 256 + a) = (x.d - sideNo r) * 256 + a := IntWalk.i64_in _ (by omega)
          rw [hin] at HC
          unfold rfV at HU
          clear HG HL z k3 kz hsb hd2
          generalize rfR (k : Int) ((x.d - sideNo r) * 256 + a) = rr at *
          generalize rfC (k : Int) ((x.d - sideNo r) * 256 + a) = rc at *
          go_enter Tryd.func85, Tryd.ntmps85
          go_wp2_with fail
          refine (HF.out w HM.out).mono ?_
          rintro e w1 ⟨rfl, b1⟩
          have c1 := (HT.out.keep b1).kind k k8
          rw [HK.out] at c1
          have HM1 := Lib.hid (HM.out.keep b1)
          have ⟨y0, y1, y2, y3, y4, y5, y6⟩ := HM1.out.cells
          go_wp2_with fail
          refine (HH.out w1).mono ?_
          rintro e w2 ⟨rfl, rfl⟩
          go_wp2_with fail
          refine (HC.out w1).mono ?_
          rintro e w2 ⟨rfl, rfl⟩
          go_wp2_with fail
          refine (HU.out w1 (HT.out.keep b1).1).mono ?_
          rintro e w2 ⟨rfl, b2⟩
          have B2 : Below w.heap.size w w2 := b1.trans (b2.mono b1.size)
          clear y0 y1 y2 y3 y4 y5 y6 c1
          by_cases hc : rc = 0
          · have ⟨hE, hr⟩ := HR.out.1 hc
            have HE2 : Hid (graphic x a r = ⟨⟨x.g0, x.g1, x.g2, x.g3, x.l, 0, 0⟩, rr, 0⟩) := Lib.hid (HE.out.trans hE)
            have HM2 := Lib.hid (HM.out.keep B2)
            have ⟨y0, y1, y2, y3, y4, y5, y6⟩ := HM2.out.cells
            have ⟨q0, q1, q2, q3, q4, q5, q6⟩ := HM2.out.thaw
            have hl2 : b < w2.heap.size := HM2.out.lt
            clear hE
            go_wp2
            go_ret3
            exact mvDone_gone HE2.out hr HM.out B2
          · have HE2 : Hid (graphic x a r = ⟨x, -1, 12⟩) := Lib.hid (HE.out.trans (HR.out.2 hc))
            have ec : (rc != 0) = true := by simpa using hc
            go_wp2
            go_ret3
            exact mvDone_none HE2.out HM.out B2
      · have hd2 : decide (128 < x.d) ≠ r := fun h => by rw [h] at hd; simp at hd
        have HE : Hid (graphic x a r = ⟨x, -1, 13⟩) := Lib.hid (by rw [HG.out, if_neg kz, if_pos k3, if_pos ⟨hpos, hd2⟩])
        generalize sideNo (decide (128 < x.d)) = hf at *
        clear HG HL z k3 kz hsb hd2
        go_enter Tryd.func85, Tryd.ntmps85
        go_wp2_with fail
        refine (HF.out w HM.out).mono ?_
        rintro e w1 ⟨rfl, b1⟩
        have c1 := (HT.out.keep b1).kind k k8
        rw [HK.out] at c1
        have HM1 := Lib.hid (HM.out.keep b1)
        have ⟨y0, y1, y2, y3, y4, y5, y6⟩ := HM1.out.cells
        go_wp2_with fail
        refine (HH.out w1).mono ?_
        rintro e w2 ⟨rfl, rfl⟩
        go_wp2
        go_ret3
        exact mvDone_none HE.out HM.out b1
  · have HE : Hid (graphic x a r = gLast x k a) := Lib.hid (by rw [HG.out, if_neg kz, if_neg k3])
    have HR := Lib.hid (rf_told hsb a0 x)
    have HU := Lib.hid (fun w ht => impl_RuneFor (k : Int) a w ht (by omega) (by omega))
    have e3 : (setKind (k : Int) == 3) = false := by rw [beq_eq_false_iff_ne]; exact k3
    have HK : Hid (kind0 (k : Int) = setKind k) := Lib.hid (by rw [kind0, if_neg kz])
    clear k3 kz hsb HG
    unfold rfV at HU
    generalize rfR (k : Int) a = rr at *
    generalize rfC (k : Int) a = rc at *
    go_enter Tryd.func85, Tryd.ntmps85
    go_wp2_with fail
    refine (HF.out w HM.out).mono ?_
    rintro e w1 ⟨rfl, b1⟩
    have c1 := (HT.out.keep b1).kind k k8
    rw [HK.out] at c1
    generalize setKind (k : Int) = kd at *
    go_wp2_with fail
    refine (HU.out w1 (HT.out.keep b1).1).mono ?_
    rintro e w2 ⟨rfl, b2⟩
    have B2 : Below w.heap.size w w2 := b1.trans (b2.mono b1.size)
    by_cases hc : rc = 0
    · have ⟨hE, hr⟩ := HR.out.1 hc
      have HE2 : Hid (graphic x a r = ⟨⟨x.g0, x.g1, x.g2, x.g3, x.l, 0, 0⟩, rr, 0⟩) := Lib.hid (HE.out.trans hE)
      have HM2 := Lib.hid (HM.out.keep B2)
      have ⟨y0, y1, y2, y3, y4, y5, y6⟩ := HM2.out.cells
      have ⟨q0, q1, q2, q3, q4, q5, q6⟩ := HM2.out.thaw
      have hl2 : b < w2.heap.size := HM2.out.lt
      clear hE c1
      go_wp2
      go_ret3
      exact mvDone_gone HE2.out hr HM.out B2
    · have HE2 : Hid (graphic x a r = ⟨x, -1, 12⟩) := Lib.hid (HE.out.trans (HR.out.2 hc))
      have ec : (rc != 0) = true := by simpa using hc
      go_wp2
      go_ret3
      exact mvDone_none HE2.out HM.out B2

end Go.Proofs.YtibadnfagoehmaaDoor

namespace Go.Proofs.YtibadnfagoehmaaDoor
open Go.RowKit

theorem GuAt.new (w : World) (n : Int) (m : Value) : GuAt (w.alloc (.cells #[.int .i64 n, .string (prName n), .string (prHead n), .slice none 0 0, .bool (prRight n), .bool (prShifts n), .bool (prSingle n), .bool (prReset n), .bool (prClear n), m] 90)) w.heap.size n m := heap_alloc_new _ _

/-- What endLine leaves: the code, the machine. -/
def elC (n : Int) (x : St) : Int := if restB n x = true then 0 else 14
def elX (n : Int) (x : St) : St := if restB n x = true then lineX n x else x
def ElDone (n : Int) (x : St) (b : Nat) (w : World) (e : Ending) (w' : World) : Prop := e = .returned (.int .i64 (elC n x)) ∧ MAt w' b (elX n x) ∧ Only b w w'
theorem elDone {n : Int} {x y : St} {b : Nat} {w w' : World} {c : Int} (hc : elC n x = c) (hy : elX n x = y) (hm : MAt w' b y) (ho : Only b w w') : ElDone n x b w (.returned (.int .i64 c)) w' := ⟨by rw [hc], by rw [hy]; exact hm, ho⟩
theorem putM_row {w : World} {g : Nat} {x : St} (h : MAt w g x) (y : St) : MAt (putSt w g y) g y := by
  have k0 : (w.setCell ⟨g, 0, none⟩ (.int .i64 y.g0)).heap[g]? = some (.cells #[.int .i64 y.g0, .int .i64 x.g1, .int .i64 x.g2, .int .i64 x.g3, .int .i64 x.l, .int .i64 x.s, .int .i64 x.d] 69) := heap_setCell_same _ g 0 _ _ (.int .i64 y.g0) h
  have k1 : ((w.setCell ⟨g, 0, none⟩ (.int .i64 y.g0)).setCell ⟨g, 1, none⟩ (.int .i64 y.g1)).heap[g]? = some (.cells #[.int .i64 y.g0, .int .i64 y.g1, .int .i64 x.g2, .int .i64 x.g3, .int .i64 x.l, .int .i64 x.s, .int .i64 x.d] 69) := heap_setCell_same _ g 1 _ _ (.int .i64 y.g1) k0
  have k2 : (((w.setCell ⟨g, 0, none⟩ (.int .i64 y.g0)).setCell ⟨g, 1, none⟩ (.int .i64 y.g1)).setCell ⟨g, 2, none⟩ (.int .i64 y.g2)).heap[g]? = some (.cells #[.int .i64 y.g0, .int .i64 y.g1, .int .i64 y.g2, .int .i64 x.g3, .int .i64 x.l, .int .i64 x.s, .int .i64 x.d] 69) := heap_setCell_same _ g 2 _ _ (.int .i64 y.g2) k1
  have k3 : ((((w.setCell ⟨g, 0, none⟩ (.int .i64 y.g0)).setCell ⟨g, 1, none⟩ (.int .i64 y.g1)).setCell ⟨g, 2, none⟩ (.int .i64 y.g2)).setCell ⟨g, 3, none⟩ (.int .i64 y.g3)).heap[g]? = some (.cells #[.int .i64 y.g0, .int .i64 y.g1, .int .i64 y.g2, .int .i64 y.g3, .int .i64 x.l, .int .i64 x.s, .int .i64 x.d] 69) := heap_setCell_same _ g 3 _ _ (.int .i64 y.g3) k2
  have k4 : (((((w.setCell ⟨g, 0, none⟩ (.int .i64 y.g0)).setCell ⟨g, 1, none⟩ (.int .i64 y.g1)).setCell ⟨g, 2, none⟩ (.int .i64 y.g2)).setCell ⟨g, 3, none⟩ (.int .i64 y.g3)).setCell ⟨g, 4, none⟩ (.int .i64 y.l)).heap[g]? = some (.cells #[.int .i64 y.g0, .int .i64 y.g1, .int .i64 y.g2, .int .i64 y.g3, .int .i64 y.l, .int .i64 x.s, .int .i64 x.d] 69) := heap_setCell_same _ g 4 _ _ (.int .i64 y.l) k3
  have k5 : ((((((w.setCell ⟨g, 0, none⟩ (.int .i64 y.g0)).setCell ⟨g, 1, none⟩ (.int .i64 y.g1)).setCell ⟨g, 2, none⟩ (.int .i64 y.g2)).setCell ⟨g, 3, none⟩ (.int .i64 y.g3)).setCell ⟨g, 4, none⟩ (.int .i64 y.l)).setCell ⟨g, 5, none⟩ (.int .i64 y.s)).heap[g]? = some (.cells #[.int .i64 y.g0, .int .i64 y.g1, .int .i64 y.g2, .int .i64 y.g3, .int .i64 y.l, .int .i64 y.s, .int .i64 x.d] 69) := heap_setCell_same _ g 5 _ _ (.int .i64 y.s) k4
  have k6 : (((((((w.setCell ⟨g, 0, none⟩ (.int .i64 y.g0)).setCell ⟨g, 1, none⟩ (.int .i64 y.g1)).setCell ⟨g, 2, none⟩ (.int .i64 y.g2)).setCell ⟨g, 3, none⟩ (.int .i64 y.g3)).setCell ⟨g, 4, none⟩ (.int .i64 y.l)).setCell ⟨g, 5, none⟩ (.int .i64 y.s)).setCell ⟨g, 6, none⟩ (.int .i64 y.d)).heap[g]? = some (.cells #[.int .i64 y.g0, .int .i64 y.g1, .int .i64 y.g2, .int .i64 y.g3, .int .i64 y.l, .int .i64 y.s, .int .i64 y.d] 69) := heap_setCell_same _ g 6 _ _ (.int .i64 y.d) k5
  exact k6
theorem only_putSt (b : Nat) (w : World) (y : St) : Only b w (putSt w b y) := ((((((Only.set b 0 w _).trans (Only.set b 1 _ _)).trans (Only.set b 2 _ _)).trans (Only.set b 3 _ _)).trans (Only.set b 4 _ _)).trans (Only.set b 5 _ _)).trans (Only.set b 6 _ _)

theorem elC_le {n : Int} {x : St} (h1 : proB n = true) (h2 : stOKB x = true) : leC n x = elC n x ∧ leX n x = elX n x := by
  unfold leX leC elC elX
  rw [h1, h2]
  cases restB n x <;> simp

end Go.Proofs.YtibadnfagoehmaaDoor

namespace Go.Proofs.YtibadnfagoehmaaDoor
open Go.RowKit Go.MapKept Go.ChangeMaps

/-- A place as a key. -/
def plK (p r : Int) : Value := .agg #[.int .i64 p, .int .i64 r]

theorem equal_place (p r p' r' : Int) (w : World) : (Op.equal 138 (plK p r) (plK p' r')).run Tryd.prog w = .ok ((p == p') && (r == r')) w := by
  have he := Tryd.underlying3
  have q : ∀ (d : Nat) (x y : Int), (Op.equalIn (d + 1) 3 (.int .i64 x) (.int .i64 y)).run Tryd.prog w = .ok (x == y) w := fun d x y => run_equalIn_int w d 3 .i64 .i64 x y he
  unfold Op.equal plK
  rw [show Op.maxDepth = 9998 + 1 + 1 from rfl]
  go_simp
  by_cases h1 : p = p'
  · by_cases h2 : r = r'
    · simp [h1, h2]
    · simp [h1, h2]
  · simp [h1]

theorem check_place (e : Bool) (p r : Int) (w : World) : (Instr.checkKey e 10000 138 (plK p r)).run Tryd.prog w = .ok () w := by
  kernel_rfl

/-- The entries of a map of places, from number k on. -/
def plE : Nat → List ((Int × Int) × Value) → List MapEntry
  | _, [] => []
  | k, e :: t => ⟨plK e.1.1 e.1.2, e.2, k⟩ :: plE (k + 1) t
/-- Where a place's entry stands, and its value. -/
def plIdx (p r : Int) : Nat → List ((Int × Int) × Value) → Option (Nat × Value)
  | _, [] => none
  | i, e :: t => if ((p == e.1.1) && (r == e.1.2)) = true then some (i, e.2) else plIdx p r (i + 1) t
theorem plE_snoc (p r : Int) (v : Value) : ∀ (es : List ((Int × Int) × Value)) (k : Nat), plE k (es ++ [((p, r), v)]) = plE k es ++ [⟨plK p r, v, k + es.length⟩]
  | [], k => by simp [plE]
  | e :: t, k => by simp [plE, plE_snoc p r v t (k + 1)]; omega

theorem find_asking (p r : Int) (w : World) : ∀ (es : List ((Int × Int) × Value)) (k i : Nat), (Instr.findAsking 138 (plK p r) (plE k es) i).run Tryd.prog w = .ok (plIdx p r i es) w
  | [], k, i => rfl
  | e :: t, k, i => by
    have h := equal_place p r e.1.1 e.1.2 w
    unfold plE Instr.findAsking plIdx
    simp only [Sem.run_bind, h, Result.andThen_ok]
    split
    · rfl
    · exact find_asking p r w t (k + 1) (i + 1)

theorem find_key (p r : Int) (w : World) (es : List ((Int × Int) × Value)) : (Instr.findKey 138 (plK p r) (plE 0 es)).run Tryd.prog w = .ok (plIdx p r 0 es) w := by
  have hu := run_underlying Tryd.underlying138 w
  unfold Instr.findKey
  simp only [Sem.run_bind, hu, Result.andThen_ok]
  cases es with
  | nil => rfl
  | cons e t => exact find_asking p r w (e :: t) 0 0

/-- The map's block. -/
def plO (es : List ((Int × Int) × Value)) : Obj := .map (plE 0 es).toArray es.length

theorem insert_place {w : World} {b : Nat} {es : List ((Int × Int) × Value)} (p r : Int) (v : Value) (hb : w.heap[b]? = some (plO es)) (hn : plIdx p r 0 es = none) :
    (Instr.mapUpdate 88 (.map (some b)) (plK p r) v).run Tryd.prog w = .ok () (setBlock w b (plO (es ++ [((p, r), v)]))) := by
  have hu := run_underlying Tryd.underlying88 w
  have hg := MapKept.run_getObj_map (P := Tryd.prog) hb
  have hc := check_place false p r w
  have hf := find_key p r w es
  rw [hn] at hf
  have hs := MapKept.run_setObj_map (P := Tryd.prog) (plO (es ++ [((p, r), v)])) hb
  have e1 : plO (es ++ [((p, r), v)]) = .map ((plE 0 es).toArray.push ⟨plK p r, v, es.length⟩) (es.length + 1) := by
    unfold plO
    rw [plE_snoc]
    simp
  rw [e1] at hs ⊢
  unfold Instr.mapUpdate
  simp only [Sem.run_bind, hu, Result.andThen_ok, hg, hc, hf]
  exact hs

theorem lookup_place {w : World} {b : Nat} {es : List ((Int × Int) × Value)} (p r : Int) (hb : w.heap[b]? = some (plO es)) :
    (Instr.lookup 88 (.map (some b)) (plK p r) false).run Tryd.prog w = .ok (match plIdx p r 0 es with | some q => q.2 | none => .slice none 0 0) w := by
  have hu := run_underlying Tryd.underlying88 w
  have hg := MapKept.run_getObj_map (P := Tryd.prog) hb
  have hc := fun e => check_place e p r w
  have hf := find_key p r w es
  have hz : (zeroValue 27).run Tryd.prog w = .ok (.slice none 0 0) w := by kernel_rfl
  unfold Instr.lookup
  simp only [Sem.run_bind, hu, Result.andThen_ok, hg, Sem.run_pure, hc, hf]
  cases plIdx p r 0 es with
  | none => simp only [Sem.run_bind, hz, Result.andThen_ok, Sem.run_pure]; rfl
  | some q => rfl

/-- 'map[place][]int{k: v}' at a new key. -/
theorem wpList_insert_place (w : World) {ops : Array Oper} {rest : List Oper} {o : Oper} {a : Act} {Q : Exit → Act → World → Prop} (hg : o.guard = none) (m x v : Operand) (hop : o.op = Op.insert 88 m x v)
    (b : Nat) (es : List ((Int × Int) × Value)) (hm : a.eval m = .map (some b)) (hb : w.heap[b]? = some (plO es)) (p r : Int) (val : Value) (hx : a.eval x = plK p r) (hv : a.eval v = val) (hn : plIdx p r 0 es = none)
    (hK : ∀ w', w'.heap[b]? = some (plO (es ++ [((p, r), val)])) → w.grownBy w' (some b) → wpList Tryd.prog ops Q rest (a.put o.dst undef) w') : wpList Tryd.prog ops Q (o :: rest) a w := by
  refine wpList_plain hg fun K' hK' => ?_
  have hrun := insert_place p r val hb hn
  unfold Oper.wp
  simp [execOp, hop, hm, hx, hv, hrun, Result.andThen]
  refine hK' _ _ (hK _ (heap_setBlock_same hb _) ?_)
  exact ⟨rfl, rfl, rfl, by simp [setBlock], fun i _ hi => heap_setBlock_other hb _ (fun e => hi (by rw [e]))⟩

end Go.Proofs.YtibadnfagoehmaaDoor

namespace Go.Proofs.YtibadnfagoehmaaDoor
open Go.RowKit Go.MapKept Go.ChangeMaps

/-- How many operations have not come up. -/
def unl (l : Array Bool) : Nat := (l.toList.filter (fun b => !b)).length
theorem unl_list_set : ∀ (l : List Bool) (i : Nat), l[i]? = some false → ((l.set i true).filter (fun b => !b)).length + 1 = (l.filter (fun b => !b)).length
  | [], i, h => by simp at h
  | b :: t, 0, h => by
    simp at h
    subst h
    simp
  | b :: t, i + 1, h => by
    have := unl_list_set t i (by simpa using h)
    cases b <;> simp <;> omega
theorem getD_true {l : Array Bool} {i : Nat} (h : l.getD i true = false) : l[i]? = some false := by
  rw [Array.getD_eq_getD_getElem?] at h
  cases hl : l[i]? with
  | none => rw [hl] at h; simp at h
  | some b => rw [hl] at h; simp at h; rw [h]
theorem unl_set {l : Array Bool} {i : Nat} (h : l.getD i true = false) : unl (l.setIfInBounds i true) + 1 = unl l := by
  have := unl_list_set l.toList i (by simpa using getD_true h)
  unfold unl
  rw [Array.toList_setIfInBounds]
  exact this
theorem unl_zero {l : Array Bool} (h : unl l = 0) (i : Nat) : l.getD i true = true := by
  cases hb : l.getD i true with
  | true => rfl
  | false => have := unl_set hb; omega

theorem wpAny_inv {P : Program} {ops : Array Oper} {Q : Exit → Act → World → Prop} (I : Array Bool → Act → World → Prop)
    (hstep : ∀ l a w, I l a w → ∀ i ∈ Region.ready .any ops l, wpOp P ops Q i (fun a' w' => I (l.setIfInBounds i true) a' w') a w)
    (hend : ∀ l a w, I l a w → Region.ready .any ops l = [] → Q .normal a w) : ∀ (fuel : Nat) (l : Array Bool) (a : Act) (w : World), unl l ≤ fuel → I l a w → wpAny P .any ops Q fuel l a w
  | 0, l, a, w, hf, hI => by
    have hr : Region.ready .any ops l = [] := by
      cases hr : Region.ready .any ops l with
      | nil => rfl
      | cons j t =>
        have hj : j ∈ Region.ready .any ops l := by rw [hr]; simp
        have h1 := (mem_ready.1 hj).1
        have h2 := unl_zero (by omega : unl l = 0) j
        rw [h1] at h2
        cases h2
    exact ⟨hr, hend l a w hI hr⟩
  | fuel + 1, l, a, w, hf, hI => by
    refine ⟨hend l a w hI, fun i hi => wpOp_mono (fun a' w' h => ?_) (hstep l a w hI i hi)⟩
    refine wpAny_inv I hstep hend fuel _ a' w' ?_ h
    have := unl_set (mem_ready.1 hi).1
    omega

/-- Every operation waits only for earlier ones. -/
def earlierB (ops : Array Oper) : Bool := (List.range ops.size).all fun i => match ops[i]? with | some o => o.after.all (fun e => decide (e.on < i)) | none => true
theorem all_listed {ops : Array Oper} {l : Array Bool} (hb : earlierB ops = true) (hs : l.size = ops.size) (hr : Region.ready .any ops l = []) : ∀ (n i : Nat), i < n → i < ops.size → l.getD i false = true
  | 0, i, h, _ => absurd h (Nat.not_lt_zero i)
  | n + 1, i, h, hi => by
    cases hl : l.getD i false with
    | true => rfl
    | false =>
      have h0 : l[i]? = some false := by
        rw [Array.getD_eq_getD_getElem?] at hl
        rw [Array.getElem?_eq_getElem (by omega : i < l.size)] at hl ⊢
        simpa using hl
      have h1 : l.getD i true = false := by rw [Array.getD_eq_getD_getElem?, h0]; rfl
      have hm : i ∈ Region.ready .any ops l := by
        refine mem_ready.2 ⟨h1, ops[i], Array.getElem?_eq_getElem hi, fun e he _ => ?_⟩
        have hall := List.all_eq_true.1 hb i (List.mem_range.2 hi)
        rw [Array.getElem?_eq_getElem hi] at hall
        have hlt := of_decide_eq_true (Array.all_eq_true_iff_forall_mem.1 hall e he)
        exact all_listed hb hs hr n e.on (by omega) (by omega)
      rw [hr] at hm
      cases hm

/-- The places, and the sets of each. -/
def plKeys : List (Int × Int) := [(1, 0), (2, 0), (2, 2), (3, 0), (3, 1), (4, 0), (4, 1), (4, 2), (5, 0), (5, 1)]
def plLists : List (List Int) := [[1, 2, 6], [1, 2, 6, 7, 8], [4, 5], [1], [7], [1], [7, 8], [3, 6], [1, 2, 6, 7, 8], [3, 4, 5, 6, 7, 8]]
def plKey (k : Nat) : Int × Int := plKeys.getD k (0, 0)
def plList (k : Nat) : List Int := plLists.getD k []
def plSl (b k : Nat) : Value := .slice (some ⟨b, 0, none⟩) (plList k).length (plList k).length
def plC (k : Nat) : Obj := .cells ((plList k).map (Value.int .i64)).toArray 3

/-- The map of places in block mb: the entry of place k is the row in block blk k; everything from block C on. -/
def PlMap (w : World) (C mb : Nat) (blk : Nat → Nat) (has : Nat → Bool) : Prop := C ≤ mb ∧ ∃ es, w.heap[mb]? = some (plO es) ∧ (∀ k, k < 10 → (has k = true → (∃ i, plIdx (plKey k).1 (plKey k).2 0 es = some (i, plSl (blk k) k))) ∧ (has k = false → plIdx (plKey k).1 (plKey k).2 0 es = none)) ∧
  ∀ p r, (∀ k, k < 10 → plKey k ≠ (p, r)) → plIdx p r 0 es = none

theorem plIdx_snoc (p r p' r' : Int) (v : Value) : ∀ (es : List ((Int × Int) × Value)) (i : Nat), plIdx p r i (es ++ [((p', r'), v)]) = match plIdx p r i es with | some q => some q | none => if ((p == p') && (r == r')) = true then some (i + es.length, v) else none
  | [], i => by simp [plIdx]
  | e :: t, i => by
    simp only [List.cons_append, plIdx]
    split
    · rfl
    · rw [plIdx_snoc p r p' r' v t (i + 1)]
      cases plIdx p r (i + 1) t with
      | some q => rfl
      | none => simp only [List.length_cons]; split <;> simp; omega

theorem plKey_inj : ∀ j, j < 10 → ∀ k, k < 10 → plKey j = plKey k → j = k := by decide +kernel

end Go.Proofs.YtibadnfagoehmaaDoor

namespace Go.Proofs.YtibadnfagoehmaaDoor
open Go.RowKit Go.MapKept Go.ChangeMaps

theorem set_same {l : Array Bool} {i : Nat} (h : i < l.size) : (l.setIfInBounds i true).getD i false = true := by simp [Array.getD_eq_getD_getElem?, h]
theorem set_other {l : Array Bool} {i j : Nat} (h : i ≠ j) (b : Bool) : (l.setIfInBounds i true).getD j b = l.getD j b := by simp [Array.getD_eq_getD_getElem?, Array.getElem?_setIfInBounds_ne h]
theorem unlisted {l : Array Bool} {i : Nat} (h : l.getD i true = false) : l.getD i false = false ∧ i < l.size := by
  have h1 := getD_true h
  exact ⟨by rw [Array.getD_eq_getD_getElem?, h1]; rfl, (Array.getElem?_eq_some_iff.1 h1).1⟩

structure PlInv (w0 : World) (l : Array Bool) (a : Act) (w : World) : Prop where
  size : l.size = 33
  tm : a.tmps.size = 23
  df : a.defers = []
  bel : Below w0.heap.size w0 w
  ks : ∀ k, k < 10 → l.getD (3 * k + 1) false = true → a.eval (.tmp (2 * k + 2)) = plK (plKey k).1 (plKey k).2
  all : ∃ blk : Nat → Nat, (∀ k, k < 10 → l.getD (3 * k + 2) false = true → a.eval (.tmp (2 * k + 3)) = plSl (blk k) k ∧ w0.heap.size ≤ blk k ∧ w.heap[blk k]? = some (plC k)) ∧
    (∀ j k, j < 10 → k < 10 → l.getD (3 * j + 2) false = true → l.getD (3 * k + 2) false = true → blk j = blk k → j = k) ∧
    (l.getD 0 false = true → ∃ mb, a.eval (.tmp 1) = .map (some mb) ∧ PlMap w w0.heap.size mb blk (fun k => l.getD (3 * k + 3) false))
  ins : ∀ k, k < 10 → l.getD (3 * k + 3) false = true → l.getD 0 false = true ∧ l.getD (3 * k + 2) false = true
  fin : l.getD 31 false = true → l.getD 0 false = true ∧ a.eval (.tmp 22) = a.eval (.tmp 1)
  fin2 : l.getD 32 false = true → l.getD 31 false = true ∧ a.eval (.tmp 0) = a.eval (.tmp 22)

theorem tm_put {a : Act} {d : Option Tmp} {v : Value} : (a.put d v).tmps.size = a.tmps.size ∧ (a.put d v).defers = a.defers := by
  cases d with
  | none => exact ⟨rfl, rfl⟩
  | some d => exact ⟨by simp [Act.put], rfl⟩

theorem PlInv.build {w0 w : World} {l : Array Bool} {a : Act} (h : PlInv w0 l a w) (k : Nat) (hk : k < 10) (hu : l.getD (3 * k + 1) true = false) : PlInv w0 (l.setIfInBounds (3 * k + 1) true) (a.put (some (2 * k + 2)) (plK (plKey k).1 (plKey k).2)) w := by
  have ⟨hu0, hul⟩ := unlisted hu
  have hne : ∀ j : Nat, 2 * k + 2 ≠ j → (a.put (some (2 * k + 2)) (plK (plKey k).1 (plKey k).2)).eval (.tmp j) = a.eval (.tmp j) := fun j hj => Act.eval_put_ne a _ j _ hj
  obtain ⟨blk, a1, a2, a3⟩ := h.all
  refine ⟨by simpa using h.size, tm_put.1.trans h.tm, tm_put.2.trans h.df, h.bel, ?_, ⟨blk, ?_, ?_, ?_⟩, ?_, ?_, ?_⟩
  · intro j hj hl
    by_cases hjk : j = k
    · subst hjk
      exact Act.eval_put_same a _ _ (by rw [h.tm]; omega)
    · rw [set_other (by omega)] at hl
      rw [hne _ (by omega)]
      exact h.ks j hj hl
  · intro j hj hl
    rw [set_other (by omega)] at hl
    rw [hne _ (by omega)]
    exact a1 j hj hl
  · intro i j hi hj h1 h2
    rw [set_other (by omega)] at h1 h2
    exact a2 i j hi hj h1 h2
  · intro h0
    rw [set_other (by omega)] at h0
    obtain ⟨mb, m1, m2⟩ := a3 h0
    refine ⟨mb, by rw [hne _ (by omega)]; exact m1, ?_⟩
    have : (fun j => (l.setIfInBounds (3 * k + 1) true).getD (3 * j + 3) false) = fun j => l.getD (3 * j + 3) false := funext fun j => set_other (by omega) _
    rw [this]
    exact m2
  · intro j hj hl
    rw [set_other (by omega)] at hl ⊢
    rw [set_other (by omega)]
    exact h.ins j hj hl
  · intro hl
    rw [set_other (by omega)] at hl ⊢
    rw [hne _ (by omega), hne _ (by omega)]
    exact h.fin hl
  · intro hl
    rw [set_other (by omega)] at hl ⊢
    rw [hne _ (by omega), hne _ (by omega)]
    exact h.fin2 hl

theorem PlInv.slice {w0 w : World} {l : Array Bool} {a : Act} (h : PlInv w0 l a w) (k : Nat) (hk : k < 10) (hu : l.getD (3 * k + 2) true = false) : PlInv w0 (l.setIfInBounds (3 * k + 2) true) (a.put (some (2 * k + 3)) (plSl w.heap.size k)) (w.alloc (plC k)) := by
  have ⟨hu0, hul⟩ := unlisted hu
  have hne : ∀ j : Nat, 2 * k + 3 ≠ j → (a.put (some (2 * k + 3)) (plSl w.heap.size k)).eval (.tmp j) = a.eval (.tmp j) := fun j hj => Act.eval_put_ne a _ j _ hj
  obtain ⟨blk, a1, a2, a3⟩ := h.all
  have hlt : ∀ j, j < 10 → l.getD (3 * j + 2) false = true → blk j < w.heap.size := fun j hj hl => (Array.getElem?_eq_some_iff.1 (a1 j hj hl).2.2).1
  refine ⟨by simpa using h.size, tm_put.1.trans h.tm, tm_put.2.trans h.df, h.bel.alloc h.bel.size _, ?_, ⟨fun j => if j = k then w.heap.size else blk j, ?_, ?_, ?_⟩, ?_, ?_, ?_⟩
  · intro j hj hl
    rw [set_other (by omega)] at hl
    rw [hne _ (by omega)]
    exact h.ks j hj hl
  · intro j hj hl
    by_cases hjk : j = k
    · subst hjk
      dsimp only
      rw [if_pos rfl]
      exact ⟨Act.eval_put_same a _ _ (by rw [h.tm]; omega), h.bel.size, at_new _ _ rfl⟩
    · rw [set_other (by omega)] at hl
      dsimp only
      rw [if_neg hjk, hne _ (by omega)]
      have := a1 j hj hl
      exact ⟨this.1, this.2.1, at_old _ this.2.2⟩
  · intro i j hi hj h1 h2
    dsimp only
    by_cases hik : i = k
    · by_cases hjk : j = k
      · intro _; omega
      · rw [set_other (by omega)] at h2
        rw [if_pos hik, if_neg hjk]
        have := hlt j hj h2
        intro he
        omega
    · rw [set_other (by omega)] at h1
      by_cases hjk : j = k
      · rw [if_neg hik, if_pos hjk]
        have := hlt i hi h1
        intro he
        omega
      · rw [set_other (by omega)] at h2
        rw [if_neg hik, if_neg hjk]
        exact a2 i j hi hj h1 h2
  · intro h0
    rw [set_other (by omega)] at h0
    obtain ⟨mb, m1, hmb, es, e1, e2, e3⟩ := a3 h0
    refine ⟨mb, by rw [hne _ (by omega)]; exact m1, hmb, es, at_old _ e1, ?_, e3⟩
    intro j hj
    dsimp only
    rw [set_other (by omega)]
    refine ⟨fun hl => ?_, (e2 j hj).2⟩
    have hjk : j ≠ k := by
      intro he
      subst he
      have := (h.ins j hj hl).2
      rw [hu0] at this
      cases this
    rw [if_neg hjk]
    exact (e2 j hj).1 hl
  · intro j hj hl
    rw [set_other (by omega)] at hl ⊢
    have := h.ins j hj hl
    refine ⟨this.1, ?_⟩
    by_cases hjk : j = k
    · subst hjk; exact set_same hul
    · rw [set_other (by omega)]; exact this.2
  · intro hl
    rw [set_other (by omega)] at hl ⊢
    rw [hne _ (by omega), hne _ (by omega)]
    exact h.fin hl
  · intro hl
    rw [set_other (by omega)] at hl ⊢
    rw [hne _ (by omega), hne _ (by omega)]
    exact h.fin2 hl

theorem PlInv.make {w0 w : World} {l : Array Bool} {a : Act} (h : PlInv w0 l a w) (hu : l.getD 0 true = false) : PlInv w0 (l.setIfInBounds 0 true) (a.put (some 1) (.map (some w.heap.size))) (w.alloc (.map #[] 0)) := by
  have ⟨hu0, hul⟩ := unlisted hu
  have hne : ∀ j : Nat, 1 ≠ j → (a.put (some 1) (.map (some w.heap.size))).eval (.tmp j) = a.eval (.tmp j) := fun j hj => Act.eval_put_ne a _ j _ hj
  obtain ⟨blk, a1, a2, a3⟩ := h.all
  refine ⟨by simpa using h.size, tm_put.1.trans h.tm, tm_put.2.trans h.df, h.bel.alloc h.bel.size _, ?_, ⟨blk, ?_, ?_, ?_⟩, ?_, ?_, ?_⟩
  · intro j hj hl
    rw [set_other (by omega)] at hl
    rw [hne _ (by omega)]
    exact h.ks j hj hl
  · intro j hj hl
    rw [set_other (by omega)] at hl
    rw [hne _ (by omega)]
    have := a1 j hj hl
    exact ⟨this.1, this.2.1, at_old _ this.2.2⟩
  · intro i j hi hj h1 h2
    rw [set_other (by omega)] at h1 h2
    exact a2 i j hi hj h1 h2
  · intro _
    refine ⟨w.heap.size, Act.eval_put_same a _ _ (by rw [h.tm]; omega), h.bel.size, [], at_new _ _ rfl, ?_, fun _ _ _ => rfl⟩
    intro j hj
    dsimp only
    rw [set_other (by omega)]
    refine ⟨fun hl => ?_, fun _ => rfl⟩
    have := (h.ins j hj hl).1
    rw [hu0] at this
    cases this
  · intro j hj hl
    rw [set_other (by omega)] at hl
    rw [set_other (by omega : 0 ≠ 3 * j + 2)]
    exact ⟨set_same hul, (h.ins j hj hl).2⟩
  · intro hl
    rw [set_other (by omega)] at hl
    have := (h.fin hl).1
    rw [hu0] at this
    cases this
  · intro hl
    rw [set_other (by omega)] at hl
    have := (h.fin (h.fin2 hl).1).1
    rw [hu0] at this
    cases this

theorem PlInv.insert {w0 w : World} {l : Array Bool} {a : Act} (h : PlInv w0 l a w) (k : Nat) (hk : k < 10) (hu : l.getD (3 * k + 3) true = false) (d0 : l.getD 0 false = true) (d1 : l.getD (3 * k + 1) false = true) (d2 : l.getD (3 * k + 2) false = true) :
    ∃ w', (Instr.mapUpdate 88 (a.eval (.tmp 1)) (a.eval (.tmp (2 * k + 2))) (a.eval (.tmp (2 * k + 3)))).run Tryd.prog w = .ok () w' ∧ PlInv w0 (l.setIfInBounds (3 * k + 3) true) a w' := by
  have ⟨hu0, hul⟩ := unlisted hu
  obtain ⟨blk, a1, a2, a3⟩ := h.all
  obtain ⟨mb, m1, hmb, es, e1, e2, e3⟩ := a3 d0
  have e1' : w.heap[mb]? = some (.map (plE 0 es).toArray es.length) := e1
  have hno := (e2 k hk).2 hu0
  refine ⟨setBlock w mb (plO (es ++ [(((plKey k).1, (plKey k).2), plSl (blk k) k)])), ?_, ?_⟩
  · rw [m1, h.ks k hk d1, (a1 k hk d2).1]
    exact insert_place (plKey k).1 (plKey k).2 (plSl (blk k) k) e1 hno
  · have hother : ∀ i, i ≠ mb → (setBlock w mb (plO (es ++ [(((plKey k).1, (plKey k).2), plSl (blk k) k)]))).heap[i]? = w.heap[i]? := fun i hi => heap_setBlock_other e1' _ hi
    refine ⟨by simpa using h.size, h.tm, h.df, ?_, ?_, ⟨blk, ?_, ?_, ?_⟩, ?_, ?_, ?_⟩
    · exact h.bel.grown (row := some mb) ⟨rfl, rfl, rfl, by simp [setBlock], fun i _ hi => heap_setBlock_other e1' _ (fun e => hi (by rw [e]))⟩ h.bel.size (fun i hi => by cases hi; exact hmb)
    · intro j hj hl
      rw [set_other (by omega)] at hl
      exact h.ks j hj hl
    · intro j hj hl
      rw [set_other (by omega)] at hl
      have := a1 j hj hl
      refine ⟨this.1, this.2.1, (hother _ ?_).trans this.2.2⟩
      intro he
      have h3 := this.2.2
      rw [he, e1] at h3
      unfold plO plC at h3
      simp at h3
    · intro i j hi hj h1 h2
      rw [set_other (by omega)] at h1 h2
      exact a2 i j hi hj h1 h2
    · intro _
      refine ⟨mb, m1, hmb, _, heap_setBlock_same e1' _, ?_, ?_⟩
      · intro j hj
        rw [plIdx_snoc]
        by_cases hjk : j = k
        · subst hjk
          refine ⟨fun _ => ?_, fun hl => ?_⟩
          · rw [hno]
            exact ⟨0 + es.length, by simp⟩
          · dsimp only at hl
            rw [set_same hul] at hl
            cases hl
        · dsimp only
          rw [set_other (by omega)]
          refine ⟨fun hl => ?_, fun hl => ?_⟩
          · obtain ⟨i, hi⟩ := (e2 j hj).1 hl
            rw [hi]
            exact ⟨i, rfl⟩
          · rw [(e2 j hj).2 hl]
            have hkk : plKey j ≠ plKey k := fun he => hjk (plKey_inj j hj k hk he)
            have : ((((plKey j).1 == (plKey k).1) && ((plKey j).2 == (plKey k).2)) = true) → False := by
              intro hb
              simp only [Bool.and_eq_true, beq_iff_eq] at hb
              exact hkk (Prod.ext hb.1 hb.2)
            simp only
            rw [if_neg this]
      · intro p r hpr
        rw [plIdx_snoc, e3 p r hpr]
        have : (((p == (plKey k).1) && (r == (plKey k).2)) = true) → False := by
          intro hb
          simp only [Bool.and_eq_true, beq_iff_eq] at hb
          exact hpr k hk (Prod.ext hb.1.symm hb.2.symm)
        simp only
        rw [if_neg this]
    · intro j hj hl
      rw [set_other (by omega : 3 * k + 3 ≠ 0), set_other (by omega : 3 * k + 3 ≠ 3 * j + 2)]
      by_cases hjk : j = k
      · subst hjk; exact ⟨d0, d2⟩
      · rw [set_other (by omega)] at hl
        exact h.ins j hj hl
    · intro hl
      rw [set_other (by omega)] at hl ⊢
      exact h.fin hl
    · intro hl
      rw [set_other (by omega)] at hl ⊢
      exact h.fin2 hl

theorem PlInv.move {w0 w : World} {l : Array Bool} {a : Act} (h : PlInv w0 l a w) (hu : l.getD 31 true = false) (d0 : l.getD 0 false = true) : PlInv w0 (l.setIfInBounds 31 true) (a.put (some 22) (a.eval (.tmp 1))) w := by
  have ⟨hu0, hul⟩ := unlisted hu
  have hne : ∀ j : Nat, 22 ≠ j → (a.put (some 22) (a.eval (.tmp 1))).eval (.tmp j) = a.eval (.tmp j) := fun j hj => Act.eval_put_ne a _ j _ hj
  obtain ⟨blk, a1, a2, a3⟩ := h.all
  refine ⟨by simpa using h.size, tm_put.1.trans h.tm, tm_put.2.trans h.df, h.bel, ?_, ⟨blk, ?_, ?_, ?_⟩, ?_, ?_, ?_⟩
  · intro j hj hl
    rw [set_other (by omega)] at hl
    rw [hne _ (by omega)]
    exact h.ks j hj hl
  · intro j hj hl
    rw [set_other (by omega)] at hl
    rw [hne _ (by omega)]
    exact a1 j hj hl
  · intro i j hi hj h1 h2
    rw [set_other (by omega)] at h1 h2
    exact a2 i j hi hj h1 h2
  · intro h0
    obtain ⟨mb, m1, m2⟩ := a3 d0
    refine ⟨mb, by rw [hne _ (by omega)]; exact m1, ?_⟩
    obtain ⟨hmb, es, e1, e2, e3⟩ := m2
    refine ⟨hmb, es, e1, fun j hj => ?_, e3⟩
    dsimp only
    rw [set_other (by omega)]
    exact e2 j hj
  · intro j hj hl
    rw [set_other (by omega)] at hl
    rw [set_other (by omega : 31 ≠ 0), set_other (by omega : 31 ≠ 3 * j + 2)]
    exact h.ins j hj hl
  · intro _
    rw [set_other (by omega : 31 ≠ 0), hne _ (by omega : 22 ≠ 1)]
    exact ⟨d0, Act.eval_put_same a _ _ (by rw [h.tm]; omega)⟩
  · intro hl
    rw [set_other (by omega)] at hl
    have := (h.fin2 hl).1
    rw [hu0] at this
    cases this

theorem PlInv.assign {w0 w : World} {l : Array Bool} {a : Act} (h : PlInv w0 l a w) (hu : l.getD 32 true = false) (d31 : l.getD 31 false = true) : PlInv w0 (l.setIfInBounds 32 true) (a.put (some 0) (a.eval (.tmp 22))) w := by
  have ⟨hu0, hul⟩ := unlisted hu
  have hne : ∀ j : Nat, 0 ≠ j → (a.put (some 0) (a.eval (.tmp 22))).eval (.tmp j) = a.eval (.tmp j) := fun j hj => Act.eval_put_ne a _ j _ hj
  obtain ⟨blk, a1, a2, a3⟩ := h.all
  refine ⟨by simpa using h.size, tm_put.1.trans h.tm, tm_put.2.trans h.df, h.bel, ?_, ⟨blk, ?_, ?_, ?_⟩, ?_, ?_, ?_⟩
  · intro j hj hl
    rw [set_other (by omega)] at hl
    rw [hne _ (by omega)]
    exact h.ks j hj hl
  · intro j hj hl
    rw [set_other (by omega)] at hl
    rw [hne _ (by omega)]
    exact a1 j hj hl
  · intro i j hi hj h1 h2
    rw [set_other (by omega)] at h1 h2
    exact a2 i j hi hj h1 h2
  · intro h0
    rw [set_other (by omega)] at h0
    obtain ⟨mb, m1, m2⟩ := a3 h0
    refine ⟨mb, by rw [hne _ (by omega)]; exact m1, ?_⟩
    obtain ⟨hmb, es, e1, e2, e3⟩ := m2
    refine ⟨hmb, es, e1, fun j hj => ?_, e3⟩
    dsimp only
    rw [set_other (by omega)]
    exact e2 j hj
  · intro j hj hl
    rw [set_other (by omega)] at hl
    rw [set_other (by omega : 32 ≠ 0), set_other (by omega : 32 ≠ 3 * j + 2)]
    exact h.ins j hj hl
  · intro hl
    rw [set_other (by omega)] at hl ⊢
    rw [hne _ (by omega), hne _ (by omega)]
    exact h.fin hl
  · intro _
    rw [set_other (by omega : 32 ≠ 31), hne _ (by omega : 0 ≠ 22)]
    exact ⟨d31, Act.eval_put_same a _ _ (by rw [h.tm]; omega)⟩

/-- One operation that comes up, by its run. -/
theorem op_value {P : Program} {ops : Array Oper} {Q : Exit → Act → World → Prop} {i : Nat} {o : Oper} {a : Act} {w w' : World} {v : Value} {K : Act → World → Prop} (ho : ops[i]? = some o) (hg : o.guard = none) (hr : (execOp a.eval o).run P w = .ok (.value v) w') (hK : K (a.put o.dst v) w') : wpOp P ops Q i K a w := by
  unfold wpOp
  rw [ho]
  have : Region.wanted o (yielded ops a.tmps) = true := by simp [Region.wanted, hg]
  simp only [this, if_true]
  exact .inl (by unfold Oper.wp; rw [hr]; exact hK)
theorem op_skip {P : Program} {ops : Array Oper} {Q : Exit → Act → World → Prop} {i : Nat} {o : Oper} {a : Act} {w w' : World} {K : Act → World → Prop} (ho : ops[i]? = some o) (hg : o.guard = none) (hr : (execOp a.eval o).run P w = .ok .skip w') (hK : K (a.put o.dst undef) w') : wpOp P ops Q i K a w := by
  unfold wpOp
  rw [ho]
  have : Region.wanted o (yielded ops a.tmps) = true := by simp [Region.wanted, hg]
  simp only [this, if_true]
  exact .inl (by unfold Oper.wp; rw [hr]; exact hK)

/-- The map of all places. -/
def PlacesAt (w : World) (C mb : Nat) : Prop := ∃ blk : Nat → Nat, (∀ k, k < 10 → C ≤ blk k ∧ w.heap[blk k]? = some (plC k)) ∧ (∀ j k, j < 10 → k < 10 → blk j = blk k → j = k) ∧ PlMap w C mb blk (fun _ => true)

theorem PlInv.last {w0 w : World} {l : Array Bool} {a : Act} (h : PlInv w0 l a w) (hl : ∀ i, i < 33 → l.getD i false = true) : ∃ mb, a.eval (.tmp 0) = .map (some mb) ∧ PlacesAt w w0.heap.size mb := by
  obtain ⟨blk, a1, a2, a3⟩ := h.all
  obtain ⟨mb, m1, hmb, es, e1, e2, e3⟩ := a3 (hl 0 (by omega))
  refine ⟨mb, ?_, blk, fun k hk => (a1 k hk (hl _ (by omega))).2, fun j k hj hk => a2 j k hj hk (hl _ (by omega)) (hl _ (by omega)), hmb, es, e1, fun k hk => ⟨fun _ => (e2 k hk).1 (hl _ (by omega)), fun hf => by cases hf⟩, e3⟩
  rw [(h.fin2 (hl 32 (by omega))).2, (h.fin (hl 31 (by omega))).2, m1]

set_option maxHeartbeats 4000000 in
set_option maxRecDepth 100000 in
theorem impl_setsOfPlaces (w : World) : Calls Tryd.prog 126 #[] w fun e w' => ∃ mb, e = .returned (.map (some mb)) ∧ PlacesAt w' w.heap.size mb ∧ Below w.heap.size w w' := by
  have hmm := @run_makeMap Tryd.prog
  go_enter Tryd.func126, Tryd.ntmps126
  go_wp2_with fail
  rename_i K hK
  refine wp_region_any (by kernel_rfl) ?_
  refine wpAny_inv (PlInv w) ?_ ?_ _ _ _ _ (by decide +kernel) ?_
  · intro l a w1 hI i hi
    obtain ⟨hu, o, ho, hd⟩ := mem_ready.1 hi
    have hi33 : i < 33 := by have := (Array.getElem?_eq_some_iff.1 ho).1; simpa using this
    rcases (show i = 0 ∨ i = 1 ∨ i = 2 ∨ i = 3 ∨ i = 4 ∨ i = 5 ∨ i = 6 ∨ i = 7 ∨ i = 8 ∨ i = 9 ∨ i = 10 ∨ i = 11 ∨ i = 12 ∨ i = 13 ∨ i = 14 ∨ i = 15 ∨ i = 16 ∨ i = 17 ∨ i = 18 ∨ i = 19 ∨ i = 20 ∨ i = 21 ∨ i = 22 ∨ i = 23 ∨ i = 24 ∨ i = 25 ∨ i = 26 ∨ i = 27 ∨ i = 28 ∨ i = 29 ∨ i = 30 ∨ i = 31 ∨ i = 32 by omega) with rfl | rfl | rfl | rfl | rfl | rfl | rfl | rfl | rfl | rfl | rfl | rfl | rfl | rfl | rfl | rfl | rfl | rfl | rfl | rfl | rfl | rfl | rfl | rfl | rfl | rfl | rfl | rfl | rfl | rfl | rfl | rfl | rfl
    · exact op_value rfl rfl (by simp [execOp, hmm]) (hI.make hu)
    · exact op_value rfl rfl (by go_simp; rfl) (hI.build 0 (by decide) hu)
    · exact op_value rfl rfl (by go_simp; exact ⟨rfl, rfl⟩) (hI.slice 0 (by decide) hu)
    · obtain rfl := Option.some.inj ho
      obtain ⟨w2, hr, hI2⟩ := hI.insert 0 (by decide) hu (hd ⟨0, .data⟩ (by simp) rfl) (hd ⟨1, .data⟩ (by simp) rfl) (hd ⟨2, .data⟩ (by simp) rfl)
      exact op_skip rfl rfl (by simp [execOp, hr, Result.andThen]) hI2
    · exact op_value rfl rfl (by go_simp; rfl) (hI.build 1 (by decide) hu)
    · exact op_value rfl rfl (by go_simp; exact ⟨rfl, rfl⟩) (hI.slice 1 (by decide) hu)
    · obtain rfl := Option.some.inj ho
      obtain ⟨w2, hr, hI2⟩ := hI.insert 1 (by decide) hu (hd ⟨0, .data⟩ (by simp) rfl) (hd ⟨4, .data⟩ (by simp) rfl) (hd ⟨5, .data⟩ (by simp) rfl)
      exact op_skip rfl rfl (by simp [execOp, hr, Result.andThen]) hI2
    · exact op_value rfl rfl (by go_simp; rfl) (hI.build 2 (by decide) hu)
    · exact op_value rfl rfl (by go_simp; exact ⟨rfl, rfl⟩) (hI.slice 2 (by decide) hu)
    · obtain rfl := Option.some.inj ho
      obtain ⟨w2, hr, hI2⟩ := hI.insert 2 (by decide) hu (hd ⟨0, .data⟩ (by simp) rfl) (hd ⟨7, .data⟩ (by simp) rfl) (hd ⟨8, .data⟩ (by simp) rfl)
      exact op_skip rfl rfl (by simp [execOp, hr, Result.andThen]) hI2
    · exact op_value rfl rfl (by go_simp; rfl) (hI.build 3 (by decide) hu)
    · exact op_value rfl rfl (by go_simp; exact ⟨rfl, rfl⟩) (hI.slice 3 (by decide) hu)
    · obtain rfl := Option.some.inj ho
      obtain ⟨w2, hr, hI2⟩ := hI.insert 3 (by decide) hu (hd ⟨0, .data⟩ (by simp) rfl) (hd ⟨10, .data⟩ (by simp) rfl) (hd ⟨11, .data⟩ (by simp) rfl)
      exact op_skip rfl rfl (by simp [execOp, hr, Result.andThen]) hI2
    · exact op_value rfl rfl (by go_simp; rfl) (hI.build 4 (by decide) hu)
    · exact op_value rfl rfl (by go_simp; exact ⟨rfl, rfl⟩) (hI.slice 4 (by decide) hu)
    · obtain rfl := Option.some.inj ho
      obtain ⟨w2, hr, hI2⟩ := hI.insert 4 (by decide) hu (hd ⟨0, .data⟩ (by simp) rfl) (hd ⟨13, .data⟩ (by simp) rfl) (hd ⟨14, .data⟩ (by simp) rfl)
      exact op_skip rfl rfl (by simp [execOp, hr, Result.andThen]) hI2
    · exact op_value rfl rfl (by go_simp; rfl) (hI.build 5 (by decide) hu)
    · exact op_value rfl rfl (by go_simp; exact ⟨rfl, rfl⟩) (hI.slice 5 (by decide) hu)
    · obtain rfl := Option.some.inj ho
      obtain ⟨w2, hr, hI2⟩ := hI.insert 5 (by decide) hu (hd ⟨0, .data⟩ (by simp) rfl) (hd ⟨16, .data⟩ (by simp) rfl) (hd ⟨17, .data⟩ (by simp) rfl)
      exact op_skip rfl rfl (by simp [execOp, hr, Result.andThen]) hI2
    · exact op_value rfl rfl (by go_simp; rfl) (hI.build 6 (by decide) hu)
    · exact op_value rfl rfl (by go_simp; exact ⟨rfl, rfl⟩) (hI.slice 6 (by decide) hu)
    · obtain rfl := Option.some.inj ho
      obtain ⟨w2, hr, hI2⟩ := hI.insert 6 (by decide) hu (hd ⟨0, .data⟩ (by simp) rfl) (hd ⟨19, .data⟩ (by simp) rfl) (hd ⟨20, .data⟩ (by simp) rfl)
      exact op_skip rfl rfl (by simp [execOp, hr, Result.andThen]) hI2
    · exact op_value rfl rfl (by go_simp; rfl) (hI.build 7 (by decide) hu)
    · exact op_value rfl rfl (by go_simp; exact ⟨rfl, rfl⟩) (hI.slice 7 (by decide) hu)
    · obtain rfl := Option.some.inj ho
      obtain ⟨w2, hr, hI2⟩ := hI.insert 7 (by decide) hu (hd ⟨0, .data⟩ (by simp) rfl) (hd ⟨22, .data⟩ (by simp) rfl) (hd ⟨23, .data⟩ (by simp) rfl)
      exact op_skip rfl rfl (by simp [execOp, hr, Result.andThen]) hI2
    · exact op_value rfl rfl (by go_simp; rfl) (hI.build 8 (by decide) hu)
    · exact op_value rfl rfl (by go_simp; exact ⟨rfl, rfl⟩) (hI.slice 8 (by decide) hu)
    · obtain rfl := Option.some.inj ho
      obtain ⟨w2, hr, hI2⟩ := hI.insert 8 (by decide) hu (hd ⟨0, .data⟩ (by simp) rfl) (hd ⟨25, .data⟩ (by simp) rfl) (hd ⟨26, .data⟩ (by simp) rfl)
      exact op_skip rfl rfl (by simp [execOp, hr, Result.andThen]) hI2
    · exact op_value rfl rfl (by go_simp; rfl) (hI.build 9 (by decide) hu)
    · exact op_value rfl rfl (by go_simp; exact ⟨rfl, rfl⟩) (hI.slice 9 (by decide) hu)
    · obtain rfl := Option.some.inj ho
      obtain ⟨w2, hr, hI2⟩ := hI.insert 9 (by decide) hu (hd ⟨0, .data⟩ (by simp) rfl) (hd ⟨28, .data⟩ (by simp) rfl) (hd ⟨29, .data⟩ (by simp) rfl)
      exact op_skip rfl rfl (by simp [execOp, hr, Result.andThen]) hI2
    · obtain rfl := Option.some.inj ho
      exact op_value rfl rfl (by simp [execOp]) (hI.move hu (hd ⟨0, .data⟩ (by simp) rfl))
    · obtain rfl := Option.some.inj ho
      exact op_value rfl rfl (by simp [execOp]) (hI.assign hu (hd ⟨31, .data⟩ (by simp) rfl))
  · intro l a w1 hI hr
    have hl := fun i hi => all_listed (by decide +kernel) (by rw [hI.size]; rfl) hr 33 i hi (by simpa using hi)
    obtain ⟨mb, h0, hp⟩ := hI.last hl
    refine hK _ _ ?_
    go_wp2
    exact bodyPost_ret (results_tmp rfl _ _ _) hI.df ⟨mb, congrArg Ending.returned h0, hp, hI.bel⟩
  · have hf : ∀ i, (Array.replicate 33 false).getD i false = false := fun i => by
      rw [Array.getD_eq_getD_getElem?, Array.getElem?_replicate]
      split <;> rfl
    have no : ∀ {i : Nat}, (Array.replicate 33 false).getD i false = true → False := fun h => by rw [hf] at h; cases h
    exact ⟨rfl, rfl, rfl, (Below.refl w.heap.size w).drew, fun k _ h => (no h).elim, ⟨fun _ => 0, fun k _ h => (no h).elim, fun j k _ _ h => (no h).elim, fun h => (no h).elim⟩, fun k _ h => (no h).elim, fun h => (no h).elim, fun h => (no h).elim⟩

end Go.Proofs.YtibadnfagoehmaaDoor

namespace Go.Proofs.YtibadnfagoehmaaDoor
open Go.RowKit

theorem PlacesAt.move {w w' : World} {C mb : Nat} (h : PlacesAt w C mb) (hk : ∀ i, C ≤ i → i < w.heap.size → w'.heap[i]? = w.heap[i]?) : PlacesAt w' C mb := by
  obtain ⟨blk, h1, h2, hC, es, h3, h4⟩ := h
  exact ⟨blk, fun k hk10 => ⟨(h1 k hk10).1, (hk _ (h1 k hk10).1 (Array.getElem?_eq_some_iff.1 (h1 k hk10).2).1).trans (h1 k hk10).2⟩, h2, hC, es, (hk _ hC (Array.getElem?_eq_some_iff.1 h3).1).trans h3, h4⟩
theorem PlacesAt.keep {w w' : World} {C mb : Nat} (h : PlacesAt w C mb) (b : Below w.heap.size w w') : PlacesAt w' C mb := h.move fun i _ hi => b.block i hi
theorem PlacesAt.only {w w' : World} {C mb b : Nat} (h : PlacesAt w C mb) (o : Only b w w') (hb : b < C) : PlacesAt w' C mb := h.move fun i hi hl => o.2 i (by omega) hl
theorem PlacesAt.low {w : World} {C C' mb : Nat} (h : PlacesAt w C mb) (hC : C' ≤ C) : PlacesAt w C' mb := by
  obtain ⟨blk, h1, h2, h3, h4⟩ := h
  exact ⟨blk, fun k hk => ⟨Nat.le_trans hC (h1 k hk).1, (h1 k hk).2⟩, h2, Nat.le_trans hC h3, h4⟩

/-- The number of a profile's register among the places; 10 of none. -/
def plNo (n a : Int) : Nat := if n = 1 ∧ a = 0 then 0 else if n = 2 ∧ a = 0 then 1 else if n = 2 ∧ a = 2 then 2 else if n = 3 ∧ a = 0 then 3 else if n = 3 ∧ a = 1 then 4 else if n = 4 ∧ a = 0 then 5 else if n = 4 ∧ a = 1 then 6 else if n = 4 ∧ a = 2 then 7 else if n = 5 ∧ a = 0 then 8 else if n = 5 ∧ a = 1 then 9 else 10
theorem plNo_spec {n a : Int} (hn : proB n = true) (a0 : 0 ≤ a) (a3 : a ≤ 3) : (plNo n a < 10 ∧ plKey (plNo n a) = (n, a) ∧ plList (plNo n a) = prSets n a) ∨ ((∀ k, k < 10 → plKey k ≠ (n, a)) ∧ prSets n a = []) := by
  rcases pro_cases hn with rfl | rfl | rfl | rfl | rfl <;> rcases (show a = 0 ∨ a = 1 ∨ a = 2 ∨ a = 3 by omega) with rfl | rfl | rfl | rfl <;> decide +kernel
theorem plList_few : ∀ k, (plList k).length ≤ 6 := by
  intro k
  by_cases h : k < 10
  · exact (show ∀ k, k < 10 → (plList k).length ≤ 6 by decide +kernel) k h
  · have : plList k = [] := by
      unfold plList
      rw [List.getD_eq_getElem?_getD, List.getElem?_eq_none (by simp [plLists]; omega)]
      rfl
    rw [this]
    decide
theorem own_row {w : World} {C b k : Nat} (hC : C ≤ b) (h : w.heap[b]? = some (plC k)) : Own .i64 3 w C (plSl b k) (plList k) := by
  refine ⟨by simp, .inr ⟨b, (plList k).length, _, rfl, hC, h, Nat.le_refl _, ?_, by simp, List.take_of_length_le (by simp)⟩⟩
  have := plList_few k
  unfold maxLen
  omega

/-- The value of a register's sets: a row of the map's own, or nil. -/
theorem PlacesAt.look {w : World} {C mb : Nat} (h : PlacesAt w C mb) {n a : Int} (hn : proB n = true) (a0 : 0 ≤ a) (a3 : a ≤ 3) : ∃ s l c, (∀ q, (Instr.lookup 88 (.map (some mb)) (.agg #[.int .i64 n, .int .i64 a]) false).run Tryd.prog (w.drewN q) = .ok (.slice s l c) (w.drewN q)) ∧ Own .i64 3 w C (.slice s l c) (prSets n a) := by
  obtain ⟨blk, h1, h2, hC, es, h3, h4, h5⟩ := h
  have hl := fun q => lookup_place (w := w.drewN q) n a h3
  rcases plNo_spec hn a0 a3 with ⟨k1, k2, k3⟩ | ⟨k1, k2⟩
  · obtain ⟨i, hi⟩ := (h4 _ k1).1 rfl
    rw [k2] at hi
    rw [hi] at hl
    refine ⟨_, _, _, hl, ?_⟩
    rw [← k3]
    exact own_row (h1 _ k1).1 (h1 _ k1).2
  · rw [h5 n a k1] at hl
    refine ⟨_, _, _, hl, ?_⟩
    rw [k2]
    exact Own.nil _ _ _ _

/-- A guide with its map, made or not yet. -/
def GuOK (w : World) (g : Nat) (n : Int) (C : Nat) : Prop := ∃ m, GuAt w g n m ∧ (m = .map none ∨ ∃ mb, m = .map (some mb) ∧ PlacesAt w C mb)
theorem GuOK.keep {w w' : World} {g C : Nat} {n : Int} (h : GuOK w g n C) (b : Below w.heap.size w w') : GuOK w' g n C := by
  obtain ⟨m, h1, h2⟩ := h
  refine ⟨m, h1.keep b, h2.imp id ?_⟩
  rintro ⟨mb, h3, h4⟩
  exact ⟨mb, h3, h4.keep b⟩
theorem GuOK.only {w w' : World} {g C b : Nat} {n : Int} (h : GuOK w g n C) (o : Only b w w') (hb : b < C) (hg : g ≠ b) : GuOK w' g n C := by
  obtain ⟨m, h1, h2⟩ := h
  refine ⟨m, (o.2 g hg h1.lt).trans h1, h2.imp id ?_⟩
  rintro ⟨mb, h3, h4⟩
  exact ⟨mb, h3, h4.only o hb⟩
theorem GuAt.put {w : World} {g : Nat} {n : Int} {m : Value} (h : GuAt w g n m) (m' : Value) : GuAt (w.setCell ⟨g, 9, none⟩ m') g n m' := heap_setCell_same _ _ 9 _ _ m' h

def SfDone (n a : Int) (g C : Nat) (w : World) (e : Ending) (w' : World) : Prop := ∃ s l c mb, e = .returned (.slice s l c) ∧ GuAt w' g n (.map (some mb)) ∧ PlacesAt w' C mb ∧ Own .i64 3 w' C (.slice s l c) (prSets n a) ∧ Only g w w'

set_option maxHeartbeats 1000000 in
theorem impl_setsFor (n : Int) (a : Int) (g C : Nat) (w : World) (h : GuOK w g n C) (hg : g < C) (hC : C ≤ w.heap.size) (hn : proB n = true) (a0 : 0 ≤ a) (a3 : a ≤ 3) : Calls Tryd.prog 103 #[.pointer (some ⟨g, 0, none⟩), .int .i64 a] w (SfDone n a g C w) := by
  obtain ⟨m, hm, h2⟩ := h
  have q1 : ∀ (x y : Operand) (m : Option Nat) (w : World), (eqGuard .eql 88 x y (.map m) (.map none)).run Tryd.prog w = .ok () w := fun _ _ _ _ => by kernel_rfl
  have q2 : ∀ (w : World), (binOp .eql 88 (.map none) (.map none)).run Tryd.prog w = .ok (.bool true) w := fun _ => by kernel_rfl
  have q3 : ∀ (mb : Nat) (w : World), (binOp .eql 88 (.map (some mb)) (.map none)).run Tryd.prog w = .ok (.bool false) w := fun _ _ => by kernel_rfl
  rcases h2 with rfl | ⟨mb, rfl, hp⟩
  · have HS := Lib.hid (fun w => impl_setsOfPlaces w)
    have HM := Lib.hid hm
    have ⟨c0, c1, c2, c3, c4, c5, c6, c7, c8, c9⟩ := row10_cells hm
    clear c1 c2 c3 c4 c5 c6 c7 c8 hm
    go_enter Tryd.func103, Tryd.ntmps103
    go_wp2_with fail
    refine (HS.out _).mono ?_
    rintro e w1 ⟨mb, rfl, hp, b1⟩
    have HM1 := Lib.hid (HM.out.keep b1)
    have ⟨d0, d1, d2, d3, d4, d5, d6, d7, d8, d9⟩ := row10_cells HM1.out
    have ⟨_, _, _, _, _, _, _, _, _, f9⟩ := row10_thaw HM1.out
    have HM2 := Lib.hid (HM1.out.put (.map (some mb)))
    have hgl : g < w1.heap.size := HM1.out.lt
    have O2 : Hid (Only g w (w1.setCell ⟨g, 9, none⟩ (.map (some mb)))) := Lib.hid ((only_below HM.out.lt b1).trans (Only.set g 9 w1 _))
    have HP2 : Hid (PlacesAt (w1.setCell ⟨g, 9, none⟩ (.map (some mb))) C mb) := Lib.hid ((hp.low hC).only (Only.set g 9 w1 _) hg)
    obtain ⟨s, l, c, hl, ho⟩ := HP2.out.look hn a0 a3
    have HL := Lib.hid (fun q => show SfDone n a g C w (.returned (.slice s l c)) ((w1.setCell ⟨g, 9, none⟩ (.map (some mb))).drewN q) from ⟨s, l, c, mb, rfl, HM2.out, HP2.out.move (fun _ _ _ => rfl), ho, O2.out.drewN q⟩)
    clear d1 d2 d3 d4 d5 d6 d7 d8 b1 hp ho c0 c9
    have ⟨x0, x1, x2, x3, x4, x5, x6, x7, x8, x9⟩ := row10_cells HM2.out
    clear x1 x2 x3 x4 x5 x6 x7 x8
    go_wp2
    generalize w1.setCell ⟨g, 9, none⟩ (.map (some mb)) = W2 at *
    go_quiet (fail)
    go_wp2
    go_ret
    exact HL.out _
  · obtain ⟨s, l, c, hl, ho⟩ := hp.look hn a0 a3
    have HL := Lib.hid (fun q => show SfDone n a g C w (.returned (.slice s l c)) (w.drewN q) from ⟨s, l, c, mb, rfl, hm, hp.move (fun _ _ _ => rfl), ho, (Only.refl _ _).drewN q⟩)
    have ⟨c0, c1, c2, c3, c4, c5, c6, c7, c8, c9⟩ := row10_cells hm
    clear c1 c2 c3 c4 c5 c6 c7 c8 hp ho hm
    go_enter Tryd.func103, Tryd.ntmps103
    go_wp2_with fail
    go_quiet (fail)
    go_wp2
    go_ret
    exact HL.out _

/-- A set is no set 0. -/
theorem prSets_pos (n a : Int) : hasB (prSets n a) 0 = false := by
  unfold prSets prSet0 prSet1 prSet2
  repeat' split
  all_goals rfl
theorem allow7_bad {n a b c p m : Int} (h : fsC b c ≠ 0) (hb : 1 ≤ b) (hb3 : b ≤ 3) : allowB n ⟨7, a, b, c, p, m⟩ = false := by
  have hf : findNo b c = 0 := by
    unfold fsC at h
    rw [if_pos (by simp [inB]; omega)] at h
    by_cases h0 : findNo b c = 0
    · exact h0
    · rw [if_neg h0] at h
      exact absurd rfl h
  have := prSets_pos n a
  unfold hasB at this
  simp only [allowB, hf]
  exact this
theorem allow7_ok {n a b c p m : Int} : allowB n ⟨7, a, b, c, p, m⟩ = hasB (prSets n a) (findNo b c) := by simp only [allowB, hasB]; rfl

/-- What the guide's methods that may make its map leave. -/
def GaDone (q : Bool) (g : Nat) (n : Int) (C : Nat) (w : World) (e : Ending) (w' : World) : Prop := e = .returned (.bool q) ∧ GuOK w' g n C ∧ Only g w w'

end Go.Proofs.YtibadnfagoehmaaDoor

namespace Go.Proofs.YtibadnfagoehmaaDoor
open Go.RowKit Go.Sort

set_option maxHeartbeats 400000 in
theorem impl_byteText (b : Int) (w : World) (h0 : 0 ≤ b) (h1 : b ≤ 255) : Calls Tryd.prog 112 #[.int .i64 b] w fun e w' => e = .returned (.string (bs [b])) ∧ Below w.heap.size w w' := by
  have hc := conv_lit1 w b
  go_enter Tryd.func112, Tryd.ntmps112
  go_wp2
  go_ret
  exact ⟨rfl, below_one _ _⟩

/-- A move in a block; one handed back. -/
def mveV (m : Mv) : Value := .agg #[.string m.1, .int .i64 m.2.g0, .int .i64 m.2.g1, .int .i64 m.2.g2, .int .i64 m.2.g3, .int .i64 m.2.l, .int .i64 m.2.s, .int .i64 m.2.d]
def MveAt (w : World) (g : Nat) (m : Mv) : Prop := w.heap[g]? = some (.cells #[.string m.1, .int .i64 m.2.g0, .int .i64 m.2.g1, .int .i64 m.2.g2, .int .i64 m.2.g3, .int .i64 m.2.l, .int .i64 m.2.s, .int .i64 m.2.d] 99)
def MveRet (m : Mv) (w : World) (e : Ending) (w' : World) : Prop := e = .returned (mveV m) ∧ Below w.heap.size w w'
theorem mve_ret {P : Program} {fn : Func} {p : Tmp} {a : Act} {w w1 : World} {g : Nat} {t ty : TypeId} {fr : Nat × Nat} {d : TypeDesc} {m : Mv} {t1 : ByteArray} {y : St} (hm : m = (t1, y)) (h : fn.results = #[.cell p ty])
    (hp : a.tmps.getD p undef = .pointer (some ⟨g, 0, none⟩)) (hg : w1.heap[g]? = some (.cells #[.string t1, .int .i64 y.g0, .int .i64 y.g1, .int .i64 y.g2, .int .i64 y.g3, .int .i64 y.l, .int .i64 y.s, .int .i64 y.d] t fr))
    (hu : P.underlying ty = some d) (hd : (match d with | .struct _ | .array _ _ => true | _ => false) = true) (hi : (P.info? ty).map (·.size) = some 8) (hdef : a.defers = []) (hb : Below w.heap.size w w1) :
    bodyPost P fn (MveRet m w) .ret a w1 := by
  subst hm
  exact bodyPost_ret (results_cell_row h _ _ g _ _ _ _ hp hg hu hd hi) hdef ⟨rfl, hb⟩
theorem mveSlot0 (w : World) : MveAt (w.alloc (.cells #[.string ⟨#[]⟩, .int .i64 0, .int .i64 0, .int .i64 0, .int .i64 0, .int .i64 0, .int .i64 0, .int .i64 0] 99)) w.heap.size (⟨#[]⟩, zeroSt) := heap_alloc_new _ _

theorem heap_keep {w w' : World} {g : Nat} {o : Obj} (b : Below w.heap.size w w') (h : w.heap[g]? = some o) : w'.heap[g]? = some o := (b.block g (Array.getElem?_eq_some_iff.1 h).1).trans h

set_option maxHeartbeats 1000000 in
set_option maxRecDepth 100000 in
theorem impl_lockingShift (x : St) (w : World) (hl : x.l = 0 ∨ x.l = 1) : Calls Tryd.prog 106 #[stV x] w (MveRet (if x.l = 0 then (⟨#[14]⟩, leftTo x 1) else (⟨#[15]⟩, leftTo x 0)) w) := by
  obtain ⟨x0, x1, x2, x3, x4, x5, x6⟩ := x
  dsimp only at hl
  have HST := Lib.hid (fun y b w h => impl_state y b w h)
  unfold StDone stV at HST
  unfold stV
  dsimp only
  rcases hl with rfl | rfl
  · have B0 := Lib.hid (below_two w (.cells #[.int .i64 (⟨x0, x1, x2, x3, 1, x5, x6⟩ : St).g0, .int .i64 (⟨x0, x1, x2, x3, 1, x5, x6⟩ : St).g1, .int .i64 (⟨x0, x1, x2, x3, 1, x5, x6⟩ : St).g2, .int .i64 (⟨x0, x1, x2, x3, 1, x5, x6⟩ : St).g3, .int .i64 (⟨x0, x1, x2, x3, 1, x5, x6⟩ : St).l, .int .i64 (⟨x0, x1, x2, x3, 1, x5, x6⟩ : St).s, .int .i64 (⟨x0, x1, x2, x3, 1, x5, x6⟩ : St).d] 69) (.cells #[.string ⟨#[]⟩, .int .i64 0, .int .i64 0, .int .i64 0, .int .i64 0, .int .i64 0, .int .i64 0, .int .i64 0] 99))
    have HM0 : Hid (MAt ((w.alloc (.cells #[.int .i64 (⟨x0, x1, x2, x3, 1, x5, x6⟩ : St).g0, .int .i64 (⟨x0, x1, x2, x3, 1, x5, x6⟩ : St).g1, .int .i64 (⟨x0, x1, x2, x3, 1, x5, x6⟩ : St).g2, .int .i64 (⟨x0, x1, x2, x3, 1, x5, x6⟩ : St).g3, .int .i64 (⟨x0, x1, x2, x3, 1, x5, x6⟩ : St).l, .int .i64 (⟨x0, x1, x2, x3, 1, x5, x6⟩ : St).s, .int .i64 (⟨x0, x1, x2, x3, 1, x5, x6⟩ : St).d] 69)).alloc (.cells #[.string ⟨#[]⟩, .int .i64 0, .int .i64 0, .int .i64 0, .int .i64 0, .int .i64 0, .int .i64 0, .int .i64 0] 99)) w.heap.size ⟨x0, x1, x2, x3, 1, x5, x6⟩) := Lib.hid (heap_alloc2_old _ _ _)
    have HV0 : Hid (MveAt ((w.alloc (.cells #[.int .i64 (⟨x0, x1, x2, x3, 1, x5, x6⟩ : St).g0, .int .i64 (⟨x0, x1, x2, x3, 1, x5, x6⟩ : St).g1, .int .i64 (⟨x0, x1, x2, x3, 1, x5, x6⟩ : St).g2, .int .i64 (⟨x0, x1, x2, x3, 1, x5, x6⟩ : St).g3, .int .i64 (⟨x0, x1, x2, x3, 1, x5, x6⟩ : St).l, .int .i64 (⟨x0, x1, x2, x3, 1, x5, x6⟩ : St).s, .int .i64 (⟨x0, x1, x2, x3, 1, x5, x6⟩ : St).d] 69)).alloc (.cells #[.string ⟨#[]⟩, .int .i64 0, .int .i64 0, .int .i64 0, .int .i64 0, .int .i64 0, .int .i64 0, .int .i64 0] 99)) (w.heap.size + 1) (⟨#[]⟩, zeroSt)) := Lib.hid (heap_alloc2_new _ _ _)
    dsimp only at B0 HM0 HV0
    go_enter Tryd.func106, Tryd.ntmps106
    go_wp2_with fail
    generalize (w.alloc (.cells #[.int .i64 x0, .int .i64 x1, .int .i64 x2, .int .i64 x3, .int .i64 1, .int .i64 x5, .int .i64 x6] 69)).alloc (.cells #[.string ⟨#[]⟩, .int .i64 0, .int .i64 0, .int .i64 0, .int .i64 0, .int .i64 0, .int .i64 0, .int .i64 0] 99) = W0 at *
    refine (impl_byteText 14 _ (by decide) (by decide)).mono ?_
    rintro e w1 ⟨rfl, b1⟩
    have B1 := Lib.hid (B0.out.trans (b1.mono B0.out.size))
    have HM1 := Lib.hid (HM0.out.keep b1)
    have HV1 := Lib.hid (heap_keep b1 HV0.out)
    clear b1 B0 HM0 HV0
    go_wp2_with fail
    refine (HST.out _ _ _ HM1.out).mono ?_
    rintro e w2 ⟨rfl, b2⟩
    have B2 := Lib.hid (B1.out.trans (b2.mono B1.out.size))
    have HV2 := Lib.hid (heap_keep b2 HV1.out)
    clear b2 B1 HM1 HV1
    have ⟨r0, r1, r2, r3, r4, r5, r6, r7⟩ := row8_cells HV2.out
    have ⟨z0, z1, z2, z3, z4, z5, z6, z7⟩ := row8_thaw HV2.out
    have hl2 : w.heap.size + 1 < w2.heap.size := (Array.getElem?_eq_some_iff.1 HV2.out).1
    simp only [zeroSt] at r0 r1 r2 r3 r4 r5 r6 r7
    go_wp2
    exact mve_ret (y := ⟨x0, x1, x2, x3, 1, x5, x6⟩) rfl rfl rfl (put8_row HV2.out _ _ _ _ _ _ _ _) Tryd.underlying99 rfl (by kernel_rfl) rfl (put8_below B2.out (by omega) _ _ _ _ _ _ _ _)
  · have B0 := Lib.hid (below_two w (.cells #[.int .i64 (⟨x0, x1, x2, x3, 0, x5, x6⟩ : St).g0, .int .i64 (⟨x0, x1, x2, x3, 0, x5, x6⟩ : St).g1, .int .i64 (⟨x0, x1, x2, x3, 0, x5, x6⟩ : St).g2, .int .i64 (⟨x0, x1, x2, x3, 0, x5, x6⟩ : St).g3, .int .i64 (⟨x0, x1, x2, x3, 0, x5, x6⟩ : St).l, .int .i64 (⟨x0, x1, x2, x3, 0, x5, x6⟩ : St).s, .int .i64 (⟨x0, x1, x2, x3, 0, x5, x6⟩ : St).d] 69) (.cells #[.string ⟨#[]⟩, .int .i64 0, .int .i64 0, .int .i64 0, .int .i64 0, .int .i64 0, .int .i64 0, .int .i64 0] 99))
    have HM0 : Hid (MAt ((w.alloc (.cells #[.int .i64 (⟨x0, x1, x2, x3, 0, x5, x6⟩ : St).g0, .int .i64 (⟨x0, x1, x2, x3, 0, x5, x6⟩ : St).g1, .int .i64 (⟨x0, x1, x2, x3, 0, x5, x6⟩ : St).g2, .int .i64 (⟨x0, x1, x2, x3, 0, x5, x6⟩ : St).g3, .int .i64 (⟨x0, x1, x2, x3, 0, x5, x6⟩ : St).l, .int .i64 (⟨x0, x1, x2, x3, 0, x5, x6⟩ : St).s, .int .i64 (⟨x0, x1, x2, x3, 0, x5, x6⟩ : St).d] 69)).alloc (.cells #[.string ⟨#[]⟩, .int .i64 0, .int .i64 0, .int .i64 0, .int .i64 0, .int .i64 0, .int .i64 0, .int .i64 0] 99)) w.heap.size ⟨x0, x1, x2, x3, 0, x5, x6⟩) := Lib.hid (heap_alloc2_old _ _ _)
    have HV0 : Hid (MveAt ((w.alloc (.cells #[.int .i64 (⟨x0, x1, x2, x3, 0, x5, x6⟩ : St).g0, .int .i64 (⟨x0, x1, x2, x3, 0, x5, x6⟩ : St).g1, .int .i64 (⟨x0, x1, x2, x3, 0, x5, x6⟩ : St).g2, .int .i64 (⟨x0, x1, x2, x3, 0, x5, x6⟩ : St).g3, .int .i64 (⟨x0, x1, x2, x3, 0, x5, x6⟩ : St).l, .int .i64 (⟨x0, x1, x2, x3, 0, x5, x6⟩ : St).s, .int .i64 (⟨x0, x1, x2, x3, 0, x5, x6⟩ : St).d] 69)).alloc (.cells #[.string ⟨#[]⟩, .int .i64 0, .int .i64 0, .int .i64 0, .int .i64 0, .int .i64 0, .int .i64 0, .int .i64 0] 99)) (w.heap.size + 1) (⟨#[]⟩, zeroSt)) := Lib.hid (heap_alloc2_new _ _ _)
    dsimp only at B0 HM0 HV0
    go_enter Tryd.func106, Tryd.ntmps106
    go_wp2_with fail
    generalize (w.alloc (.cells #[.int .i64 x0, .int .i64 x1, .int .i64 x2, .int .i64 x3, .int .i64 0, .int .i64 x5, .int .i64 x6] 69)).alloc (.cells #[.string ⟨#[]⟩, .int .i64 0, .int .i64 0, .int .i64 0, .int .i64 0, .int .i64 0, .int .i64 0, .int .i64 0] 99) = W0 at *
    refine (impl_byteText 15 _ (by decide) (by decide)).mono ?_
    rintro e w1 ⟨rfl, b1⟩
    have B1 := Lib.hid (B0.out.trans (b1.mono B0.out.size))
    have HM1 := Lib.hid (HM0.out.keep b1)
    have HV1 := Lib.hid (heap_keep b1 HV0.out)
    clear b1 B0 HM0 HV0
    go_wp2_with fail
    refine (HST.out _ _ _ HM1.out).mono ?_
    rintro e w2 ⟨rfl, b2⟩
    have B2 := Lib.hid (B1.out.trans (b2.mono B1.out.size))
    have HV2 := Lib.hid (heap_keep b2 HV1.out)
    clear b2 B1 HM1 HV1
    have ⟨r0, r1, r2, r3, r4, r5, r6, r7⟩ := row8_cells HV2.out
    have ⟨z0, z1, z2, z3, z4, z5, z6, z7⟩ := row8_thaw HV2.out
    have hl2 : w.heap.size + 1 < w2.heap.size := (Array.getElem?_eq_some_iff.1 HV2.out).1
    simp only [zeroSt] at r0 r1 r2 r3 r4 r5 r6 r7
    go_wp2
    exact mve_ret (y := ⟨x0, x1, x2, x3, 0, x5, x6⟩) rfl rfl rfl (put8_row HV2.out _ _ _ _ _ _ _ _) Tryd.underlying99 rfl (by kernel_rfl) rfl (put8_below B2.out (by omega) _ _ _ _ _ _ _ _)

set_option maxHeartbeats 2000000 in
set_option maxRecDepth 100000 in
theorem impl_designation (x : St) (g : Nat) (q : Int) (w : World) (ht : TabSets w) (hg : g < 4) (he : eoC g q = 0) : Calls Tryd.prog 105 #[stV x, .int .i64 g, .int .i64 q] w (MveRet (escB g (setKind q) (setFinal q), stPut x g q) w) := by
  have HST := Lib.hid (fun y b w h => impl_state y b w h)
  have HEO := Lib.hid (fun w ht => impl_EscapeOf g q w ht)
  rw [eoV_ok _ _ he, Int.toNat_natCast] at HEO
  unfold StDone stV at HST
  unfold stV
  have B0 := Lib.hid (below_two w (.cells #[.int .i64 x.g0, .int .i64 x.g1, .int .i64 x.g2, .int .i64 x.g3, .int .i64 x.l, .int .i64 x.s, .int .i64 x.d] 69) (.cells #[.string ⟨#[]⟩, .int .i64 0, .int .i64 0, .int .i64 0, .int .i64 0, .int .i64 0, .int .i64 0, .int .i64 0] 99))
  have HT0 := Lib.hid (ht.keep B0.out)
  have HM0 : Hid (MAt ((w.alloc (.cells #[.int .i64 x.g0, .int .i64 x.g1, .int .i64 x.g2, .int .i64 x.g3, .int .i64 x.l, .int .i64 x.s, .int .i64 x.d] 69)).alloc (.cells #[.string ⟨#[]⟩, .int .i64 0, .int .i64 0, .int .i64 0, .int .i64 0, .int .i64 0, .int .i64 0, .int .i64 0] 99)) w.heap.size x) := Lib.hid (heap_alloc2_old _ _ _)
  have HV0 : Hid (((w.alloc (.cells #[.int .i64 x.g0, .int .i64 x.g1, .int .i64 x.g2, .int .i64 x.g3, .int .i64 x.l, .int .i64 x.s, .int .i64 x.d] 69)).alloc (.cells #[.string ⟨#[]⟩, .int .i64 0, .int .i64 0, .int .i64 0, .int .i64 0, .int .i64 0, .int .i64 0, .int .i64 0] 99)).heap[w.heap.size + 1]? = some (.cells #[.string ⟨#[]⟩, .int .i64 0, .int .i64 0, .int .i64 0, .int .i64 0, .int .i64 0, .int .i64 0, .int .i64 0] 99)) := Lib.hid (heap_alloc2_new _ _ _)
  clear ht he
  generalize escB g (setKind q) (setFinal q) = et at *
  rcases (show g = 0 ∨ g = 1 ∨ g = 2 ∨ g = 3 by omega) with rfl | rfl | rfl | rfl
  · have HP : Hid (∀ w1, MAt w1 w.heap.size x → MAt (w1.setCell ⟨w.heap.size, 0, none⟩ (.int .i64 q)) w.heap.size (stPut x 0 q)) := Lib.hid (fun w1 h => heap_setCell_same _ _ 0 _ _ _ h)
    go_enter Tryd.func105, Tryd.ntmps105
    go_wp2_with fail
    generalize (w.alloc (.cells #[.int .i64 x.g0, .int .i64 x.g1, .int .i64 x.g2, .int .i64 x.g3, .int .i64 x.l, .int .i64 x.s, .int .i64 x.d] 69)).alloc (.cells #[.string ⟨#[]⟩, .int .i64 0, .int .i64 0, .int .i64 0, .int .i64 0, .int .i64 0, .int .i64 0, .int .i64 0] 99) = W0 at *
    refine (HEO.out W0 HT0.out).mono ?_
    rintro e w1 ⟨rfl, b1⟩
    have B1 := Lib.hid (B0.out.trans (b1.mono B0.out.size))
    have HM1 := Lib.hid (HM0.out.keep b1)
    have HV1 := Lib.hid (heap_keep b1 HV0.out)
    clear b1 B0 HM0 HV0
    have ⟨y0, y1, y2, y3, y4, y5, y6⟩ := HM1.out.cells
    have ⟨f0, f1, f2, f3, f4, f5, f6⟩ := HM1.out.thaw
    have hl1 : w.heap.size < w1.heap.size := HM1.out.lt
    have HM2 := Lib.hid (HP.out _ HM1.out)
    have B2 := Lib.hid (show Below w.heap.size w (w1.setCell ⟨w.heap.size, 0, none⟩ (.int .i64 q)) from B1.out.setCell (Nat.le_refl _) _)
    have HV2 : Hid ((w1.setCell ⟨w.heap.size, 0, none⟩ (.int .i64 q)).heap[w.heap.size + 1]? = some (.cells #[.string ⟨#[]⟩, .int .i64 0, .int .i64 0, .int .i64 0, .int .i64 0, .int .i64 0, .int .i64 0, .int .i64 0] 99)) := Lib.hid (by rw [Below.heap_setCell _ _ _ _ (by simp)]; exact HV1.out)
    clear B1 HM1 HV1
    go_wp2_with fail
    clear y0 y1 y2 y3 y4 y5 y6 f0 f1 f2 f3 f4 f5 f6
    generalize w1.setCell ⟨w.heap.size, 0, none⟩ (.int .i64 q) = W1 at *
    refine (HST.out _ _ _ HM2.out).mono ?_
    rintro e w2 ⟨rfl, b2⟩
    have B3 := Lib.hid (B2.out.trans (b2.mono B2.out.size))
    have HV3 := Lib.hid (heap_keep b2 HV2.out)
    clear b2 B2 HM2 HV2
    have ⟨r0, r1, r2, r3, r4, r5, r6, r7⟩ := row8_cells HV3.out
    have ⟨z0, z1, z2, z3, z4, z5, z6, z7⟩ := row8_thaw HV3.out
    have hl2 : w.heap.size + 1 < w2.heap.size := (Array.getElem?_eq_some_iff.1 HV3.out).1
    go_wp2
    exact mve_ret (y := stPut x 0 q) rfl rfl rfl (put8_row HV3.out _ _ _ _ _ _ _ _) Tryd.underlying99 rfl (by kernel_rfl) rfl (put8_below B3.out (by omega) _ _ _ _ _ _ _ _)
  · have HP : Hid (∀ w1, MAt w1 w.heap.size x → MAt (w1.setCell ⟨w.heap.size, 1, none⟩ (.int .i64 q)) w.heap.size (stPut x 1 q)) := Lib.hid (fun w1 h => heap_setCell_same _ _ 1 _ _ _ h)
    go_enter Tryd.func105, Tryd.ntmps105
    go_wp2_with fail
    generalize (w.alloc (.cells #[.int .i64 x.g0, .int .i64 x.g1, .int .i64 x.g2, .int .i64 x.g3, .int .i64 x.l, .int .i64 x.s, .int .i64 x.d] 69)).alloc (.cells #[.string ⟨#[]⟩, .int .i64 0, .int .i64 0, .int .i64 0, .int .i64 0, .int .i64 0, .int .i64 0, .int .i64 0] 99) = W0 at *
    refine (HEO.out W0 HT0.out).mono ?_
    rintro e w1 ⟨rfl, b1⟩
    have B1 := Lib.hid (B0.out.trans (b1.mono B0.out.size))
    have HM1 := Lib.hid (HM0.out.keep b1)
    have HV1 := Lib.hid (heap_keep b1 HV0.out)
    clear b1 B0 HM0 HV0
    have ⟨y0, y1, y2, y3, y4, y5, y6⟩ := HM1.out.cells
    have ⟨f0, f1, f2, f3, f4, f5, f6⟩ := HM1.out.thaw
    have hl1 : w.heap.size < w1.heap.size := HM1.out.lt
    have HM2 := Lib.hid (HP.out _ HM1.out)
    have B2 := Lib.hid (show Below w.heap.size w (w1.setCell ⟨w.heap.size, 1, none⟩ (.int .i64 q)) from B1.out.setCell (Nat.le_refl _) _)
    have HV2 : Hid ((w1.setCell ⟨w.heap.size, 1, none⟩ (.int .i64 q)).heap[w.heap.size + 1]? = some (.cells #[.string ⟨#[]⟩, .int .i64 0, .int .i64 0, .int .i64 0, .int .i64 0, .int .i64 0, .int .i64 0, .int .i64 0] 99)) := Lib.hid (by rw [Below.heap_setCell _ _ _ _ (by simp)]; exact HV1.out)
    clear B1 HM1 HV1
    go_wp2_with fail
    clear y0 y1 y2 y3 y4 y5 y6 f0 f1 f2 f3 f4 f5 f6
    generalize w1.setCell ⟨w.heap.size, 1, none⟩ (.int .i64 q) = W1 at *
    refine (HST.out _ _ _ HM2.out).mono ?_
    rintro e w2 ⟨rfl, b2⟩
    have B3 := Lib.hid (B2.out.trans (b2.mono B2.out.size))
    have HV3 := Lib.hid (heap_keep b2 HV2.out)
    clear b2 B2 HM2 HV2
    have ⟨r0, r1, r2, r3, r4, r5, r6, r7⟩ := row8_cells HV3.out
    have ⟨z0, z1, z2, z3, z4, z5, z6, z7⟩ := row8_thaw HV3.out
    have hl2 : w.heap.size + 1 < w2.heap.size := (Array.getElem?_eq_some_iff.1 HV3.out).1
    go_wp2
    exact mve_ret (y := stPut x 1 q) rfl rfl rfl (put8_row HV3.out _ _ _ _ _ _ _ _) Tryd.underlying99 rfl (by kernel_rfl) rfl (put8_below B3.out (by omega) _ _ _ _ _ _ _ _)
  · have HP : Hid (∀ w1, MAt w1 w.heap.size x → MAt (w1.setCell ⟨w.heap.size, 2, none⟩ (.int .i64 q)) w.heap.size (stPut x 2 q)) := Lib.hid (fun w1 h => heap_setCell_same _ _ 2 _ _ _ h)
    go_enter Tryd.func105, Tryd.ntmps105
    go_wp2_with fail
    generalize (w.alloc (.cells #[.int .i64 x.g0, .int .i64 x.g1, .int .i64 x.g2, .int .i64 x.g3, .int .i64 x.l, .int .i64 x.s, .int .i64 x.d] 69)).alloc (.cells #[.string ⟨#[]⟩, .int .i64 0, .int .i64 0, .int .i64 0, .int .i64 0, .int .i64 0, .int .i64 0, .int .i64 0] 99) = W0 at *
    refine (HEO.out W0 HT0.out).mono ?_
    rintro e w1 ⟨rfl, b1⟩
    have B1 := Lib.hid (B0.out.trans (b1.mono B0.out.size))
    have HM1 := Lib.hid (HM0.out.keep b1)
    have HV1 := Lib.hid (heap_keep b1 HV0.out)
    clear b1 B0 HM0 HV0
    have ⟨y0, y1, y2, y3, y4, y5, y6⟩ := HM1.out.cells
    have ⟨f0, f1, f2, f3, f4, f5, f6⟩ := HM1.out.thaw
    have hl1 : w.heap.size < w1.heap.size := HM1.out.lt
    have HM2 := Lib.hid (HP.out _ HM1.out)
    have B2 := Lib.hid (show Below w.heap.size w (w1.setCell ⟨w.heap.size, 2, none⟩ (.int .i64 q)) from B1.out.setCell (Nat.le_refl _) _)
    have HV2 : Hid ((w1.setCell ⟨w.heap.size, 2, none⟩ (.int .i64 q)).heap[w.heap.size + 1]? = some (.cells #[.string ⟨#[]⟩, .int .i64 0, .int .i64 0, .int .i64 0, .int .i64 0, .int .i64 0, .int .i64 0, .int .i64 0] 99)) := Lib.hid (by rw [Below.heap_setCell _ _ _ _ (by simp)]; exact HV1.out)
    clear B1 HM1 HV1
    go_wp2_with fail
    clear y0 y1 y2 y3 y4 y5 y6 f0 f1 f2 f3 f4 f5 f6
    generalize w1.setCell ⟨w.heap.size, 2, none⟩ (.int .i64 q) = W1 at *
    refine (HST.out _ _ _ HM2.out).mono ?_
    rintro e w2 ⟨rfl, b2⟩
    have B3 := Lib.hid (B2.out.trans (b2.mono B2.out.size))
    have HV3 := Lib.hid (heap_keep b2 HV2.out)
    clear b2 B2 HM2 HV2
    have ⟨r0, r1, r2, r3, r4, r5, r6, r7⟩ := row8_cells HV3.out
    have ⟨z0, z1, z2, z3, z4, z5, z6, z7⟩ := row8_thaw HV3.out
    have hl2 : w.heap.size + 1 < w2.heap.size := (Array.getElem?_eq_some_iff.1 HV3.out).1
    go_wp2
    exact mve_ret (y := stPut x 2 q) rfl rfl rfl (put8_row HV3.out _ _ _ _ _ _ _ _) Tryd.underlying99 rfl (by kernel_rfl) rfl (put8_below B3.out (by omega) _ _ _ _ _ _ _ _)
  · have HP : Hid (∀ w1, MAt w1 w.heap.size x → MAt (w1.setCell ⟨w.heap.size, 3, none⟩ (.int .i64 q)) w.heap.size (stPut x 3 q)) := Lib.hid (fun w1 h => heap_setCell_same _ _ 3 _ _ _ h)
    go_enter Tryd.func105, Tryd.ntmps105
    go_wp2_with fail
    generalize (w.alloc (.cells #[.int .i64 x.g0, .int .i64 x.g1, .int .i64 x.g2, .int .i64 x.g3, .int .i64 x.l, .int .i64 x.s, .int .i64 x.d] 69)).alloc (.cells #[.string ⟨#[]⟩, .int .i64 0, .int .i64 0, .int .i64 0, .int .i64 0, .int .i64 0, .int .i64 0, .int .i64 0] 99) = W0 at *
    refine (HEO.out W0 HT0.out).mono ?_
    rintro e w1 ⟨rfl, b1⟩
    have B1 := Lib.hid (B0.out.trans (b1.mono B0.out.size))
    have HM1 := Lib.hid (HM0.out.keep b1)
    have HV1 := Lib.hid (heap_keep b1 HV0.out)
    clear b1 B0 HM0 HV0
    have ⟨y0, y1, y2, y3, y4, y5, y6⟩ := HM1.out.cells
    have ⟨f0, f1, f2, f3, f4, f5, f6⟩ := HM1.out.thaw
    have hl1 : w.heap.size < w1.heap.size := HM1.out.lt
    have HM2 := Lib.hid (HP.out _ HM1.out)
    have B2 := Lib.hid (show Below w.heap.size w (w1.setCell ⟨w.heap.size, 3, none⟩ (.int .i64 q)) from B1.out.setCell (Nat.le_refl _) _)
    have HV2 : Hid ((w1.setCell ⟨w.heap.size, 3, none⟩ (.int .i64 q)).heap[w.heap.size + 1]? = some (.cells #[.string ⟨#[]⟩, .int .i64 0, .int .i64 0, .int .i64 0, .int .i64 0, .int .i64 0, .int .i64 0, .int .i64 0] 99)) := Lib.hid (by rw [Below.heap_setCell _ _ _ _ (by simp)]; exact HV1.out)
    clear B1 HM1 HV1
    go_wp2_with fail
    clear y0 y1 y2 y3 y4 y5 y6 f0 f1 f2 f3 f4 f5 f6
    generalize w1.setCell ⟨w.heap.size, 3, none⟩ (.int .i64 q) = W1 at *
    refine (HST.out _ _ _ HM2.out).mono ?_
    rintro e w2 ⟨rfl, b2⟩
    have B3 := Lib.hid (B2.out.trans (b2.mono B2.out.size))
    have HV3 := Lib.hid (heap_keep b2 HV2.out)
    clear b2 B2 HM2 HV2
    have ⟨r0, r1, r2, r3, r4, r5, r6, r7⟩ := row8_cells HV3.out
    have ⟨z0, z1, z2, z3, z4, z5, z6, z7⟩ := row8_thaw HV3.out
    have hl2 : w.heap.size + 1 < w2.heap.size := (Array.getElem?_eq_some_iff.1 HV3.out).1
    go_wp2
    exact mve_ret (y := stPut x 3 q) rfl rfl rfl (put8_row HV3.out _ _ _ _ _ _ _ _) Tryd.underlying99 rfl (by kernel_rfl) rfl (put8_below B3.out (by omega) _ _ _ _ _ _ _ _)

/-- A struct of seven cells and a truth value handed back. -/
theorem st_retB {P : Program} {fn : Func} {p u : Tmp} {a : Act} {w1 : World} {g : Nat} {t ty : TypeId} {fr : Nat × Nat} {d : TypeDesc} {y : St} {q : Bool} {Q : Ending → World → Prop} (h : fn.results = #[.cell p ty, .tmp u])
    (hp : a.tmps.getD p undef = .pointer (some ⟨g, 0, none⟩)) (hc : a.tmps.getD u undef = .bool q) (hg : w1.heap[g]? = some (.cells #[.int .i64 y.g0, .int .i64 y.g1, .int .i64 y.g2, .int .i64 y.g3, .int .i64 y.l, .int .i64 y.s, .int .i64 y.d] t fr))
    (hu : P.underlying ty = some d) (hd : (match d with | .struct _ | .array _ _ => true | _ => false) = true) (hi : (P.info? ty).map (·.size) = some 7) (hdef : a.defers = []) (hQ : Q (.returned (.tuple #[stV y, .bool q])) w1) :
    bodyPost P fn Q .ret a w1 :=
  bodyPost_ret (results_row_tmp h _ _ g _ _ _ _ hp hg hu hd hi) hdef (by rw [hc]; exact hQ)
def WmDone (x : St) (w : World) (e : Ending) (w' : World) : Prop := e = .returned (.tuple #[stV x, .bool (calmB x)]) ∧ Below w.heap.size w w'
/-- Block r holds y, block b the machine x; what stood before is as it was. -/
def WmAt (w : World) (b r : Nat) (x y : St) (v : World) : Prop := MAt v b x ∧ MAt v r y ∧ Below w.heap.size w v
theorem WmAt.keep {w v v' : World} {b r : Nat} {x y : St} (h : WmAt w b r x y v) (k : Below v.heap.size v v') : WmAt w b r x y v' := ⟨h.1.keep k, h.2.1.keep k, h.2.2.trans (k.mono h.2.2.size)⟩
theorem WmAt.put {w v : World} {b r : Nat} {x y : St} (h : WmAt w b r x y v) (hb : r < b) (hr : w.heap.size ≤ r) (z : St) : WmAt w b r x z (putSt v r z) :=
  ⟨((only_putSt r v z).2 b (by omega) h.1.lt).trans h.1, putM_row h.2.1 z, below_putSt h.2.2 hr z⟩
theorem WmAt.drew {w v : World} {b r : Nat} {x y : St} (h : WmAt w b r x y v) : WmAt w b r x y v.drew := h.keep (Below.refl _ _).drew

set_option maxHeartbeats 2000000 in
set_option maxRecDepth 100000 in
theorem impl_writingMachine (x : St) (w : World) (ht : TabM w) (hw : Wide64 x) : Calls Tryd.prog 68 #[stV x] w (WmDone x w) := by
  have HF := Lib.hid (fun w => impl_machineOf x w)
  have HO := Lib.hid (fun b w h ht => impl_ok x b w h ht hw.1 hw.2)
  have HT := Lib.hid ht
  have HP := Lib.hid (fun b w h => impl_pending x b w h)
  have B0 := Lib.hid (below_two w (.cells #[.int .i64 x.g0, .int .i64 x.g1, .int .i64 x.g2, .int .i64 x.g3, .int .i64 x.l, .int .i64 x.s, .int .i64 x.d] 24) (.cells #[.int .i64 0, .int .i64 0, .int .i64 0, .int .i64 0, .int .i64 0, .int .i64 0, .int .i64 0] 69))
  have HV0 : Hid (MAt ((w.alloc (.cells #[.int .i64 x.g0, .int .i64 x.g1, .int .i64 x.g2, .int .i64 x.g3, .int .i64 x.l, .int .i64 x.s, .int .i64 x.d] 24)).alloc (.cells #[.int .i64 0, .int .i64 0, .int .i64 0, .int .i64 0, .int .i64 0, .int .i64 0, .int .i64 0] 69)) (w.heap.size + 1) zeroSt) := Lib.hid (heap_alloc2_new _ _ _)
  clear ht hw
  unfold StDone stV at HF
  unfold stV
  cases ho : stOKB x
  · have HE : Hid (calmB x = false) := Lib.hid (by simp [calmB, ho])
    rw [ho] at HO
    go_enter Tryd.func68, Tryd.ntmps68
    go_wp2_with fail
    refine (HF.out _).mono ?_
    generalize (w.alloc (.cells #[.int .i64 x.g0, .int .i64 x.g1, .int .i64 x.g2, .int .i64 x.g3, .int .i64 x.l, .int .i64 x.s, .int .i64 x.d] 24)).alloc (.cells #[.int .i64 0, .int .i64 0, .int .i64 0, .int .i64 0, .int .i64 0, .int .i64 0, .int .i64 0] 69) = W0 at *
    rintro e w1 ⟨rfl, b1⟩
    have HW : Hid (WmAt w w1.heap.size (w.heap.size + 1) x zeroSt (w1.alloc (.cells #[.int .i64 x.g0, .int .i64 x.g1, .int .i64 x.g2, .int .i64 x.g3, .int .i64 x.l, .int .i64 x.s, .int .i64 x.d] 69))) := Lib.hid ⟨MAt.new w1 x, ((HV0.out.keep b1).keep (below_one _ _)), (B0.out.trans (b1.mono B0.out.size)).trans ((below_one w1 (.cells #[.int .i64 x.g0, .int .i64 x.g1, .int .i64 x.g2, .int .i64 x.g3, .int .i64 x.l, .int .i64 x.s, .int .i64 x.d] 69)).mono (Nat.le_trans B0.out.size b1.size))⟩
    have hlt : w.heap.size + 1 < w1.heap.size := (HV0.out.keep b1).lt
    clear b1 HV0 B0
    go_wp2_with fail
    generalize w1.alloc (.cells #[.int .i64 x.g0, .int .i64 x.g1, .int .i64 x.g2, .int .i64 x.g3, .int .i64 x.l, .int .i64 x.s, .int .i64 x.d] 69) = W1 at *
    generalize w1.heap.size = b at *
    have hS0 : ∃ y, WmAt w b (w.heap.size + 1) x y W1.drew := ⟨_, HW.out.drew⟩
    have HTW := Lib.hid (fun v y (h : WmAt w b (w.heap.size + 1) x y v) => HT.out.keep h.2.2)
    clear HW
    refine region_held_w (S := fun v => ∃ y, WmAt w b (w.heap.size + 1) x y v) W1.drew rfl (by kernel_rfl) ?_
    generalize W1.drew = V0 at *
    refine wpAnyH_take (i := 0) (v := .agg #[.int .i64 x.g0, .int .i64 x.g1, .int .i64 x.g2, .int .i64 x.g3, .int .i64 x.l, .int .i64 x.s, .int .i64 x.d]) rfl (by kernel_rfl) (by kernel_rfl) (by kernel_rfl) (fun _ _ _ h => h) (.inl ⟨by rfl, fun w' hS' => by
      obtain ⟨y, h⟩ := hS'
      have ⟨y0, y1, y2, y3, y4, y5, y6⟩ := h.1.cells
      go_simp⟩) hS0 ?_
    obtain ⟨q0, hq0⟩ := hS0
    have HQ0 := Lib.hid hq0
    clear hq0
    refine wpAnyH_one (i := 1) (by kernel_rfl) rfl (fun K hK => ?_)
    go_simp
    refine (HO.out b _ HQ0.out.1 (HTW.out _ _ HQ0.out)).mono ?_
    rintro e w5 ⟨rfl, b5⟩
    have HQ5 := Lib.hid (HQ0.out.keep b5)
    refine hK.out _ _ ⟨_, HQ5.out⟩ (fun _ => ?_)
    clear hK K b5 HQ0
    refine wpAnyH_one (i := 2) (by kernel_rfl) rfl (fun K hK => ?_)
    go_simp
    refine hK.out _ _ ⟨_, HQ5.out⟩ (fun _ => ?_)
    clear hK K
    refine wpAnyH_one (i := 3) (by kernel_rfl) rfl (fun K hK => ?_)
    go_simp
    refine hK.out _ _ ⟨_, HQ5.out⟩ (fun _ => ?_)
    clear hK K
    refine wpAnyH_one (i := 4) (by kernel_rfl) rfl (fun K hK => ?_)
    go_simp
    refine hK.out _ _ ⟨_, HQ5.out⟩ (fun _ => ?_)
    clear hK K
    refine wpAnyH_one (i := 5) (by kernel_rfl) rfl (fun K hK => ?_)
    go_simp
    refine hK.out _ _ ⟨_, HQ5.out⟩ (fun _ => ?_)
    clear hK K
    refine wpAnyH_one (i := 6) (by kernel_rfl) rfl (fun K hK => ?_)
    go_simp
    refine hK.out _ _ ⟨_, HQ5.out⟩ (fun _ => ?_)
    clear hK K
    refine wpAnyH_take (i := 7) (v := undef) rfl (by kernel_rfl) (by kernel_rfl) (by kernel_rfl) (fun _ _ _ h => h) (.inr ⟨by rfl, rfl⟩) ⟨_, HQ5.out⟩ ?_
    refine wpAnyH_take (i := 8) (v := undef) rfl (by kernel_rfl) (by kernel_rfl) (by kernel_rfl) (fun _ _ _ h => h) (.inr ⟨by rfl, rfl⟩) ⟨_, HQ5.out⟩ ?_
    refine wpAnyH_take (i := 9) (v := undef) rfl (by kernel_rfl) (by kernel_rfl) (by kernel_rfl) (fun _ _ _ h => h) (.inr ⟨by rfl, rfl⟩) ⟨_, HQ5.out⟩ ?_
    refine wpAnyH_take (i := 10) (v := .bool false) rfl (by kernel_rfl) (by kernel_rfl) (by kernel_rfl) (fun _ _ _ h => h) (.inl ⟨by rfl, fun w' hS' => by
      obtain ⟨y, h⟩ := hS'
      have ⟨y0, y1, y2, y3, y4, y5, y6⟩ := h.1.cells
      go_simp⟩) ⟨_, HQ5.out⟩ ?_
    refine wpAnyH_one (i := 11) (by kernel_rfl) rfl (fun K hK => ?_)
    have ⟨r0, r1, r2, r3, r4, r5, r6⟩ := HQ5.out.2.1.cells
    have ⟨z0, z1, z2, z3, z4, z5, z6⟩ := HQ5.out.2.1.thaw
    have hl5 : w.heap.size + 1 < w5.heap.size := HQ5.out.2.1.lt
    have HQ6 := Lib.hid (HQ5.out.put hlt (by omega) x)
    go_simp
    refine hK.out _ _ ⟨_, HQ6.out⟩ (fun _ => ?_)
    clear hK K r0 r1 r2 r3 r4 r5 r6 z0 z1 z2 z3 z4 z5 z6
    refine wpAnyH_one (i := 12) (by kernel_rfl) rfl (fun K hK => ?_)
    go_simp
    refine hK.out _ _ ⟨_, HQ6.out⟩ (fun _ => ?_)
    clear hK K
    refine wpAnyH_done (by kernel_rfl) ?_ _
    go_wp2
    exact st_retB (y := x) rfl rfl rfl HQ6.out.2.1 Tryd.underlying69 rfl (by kernel_rfl) rfl ⟨by rw [HE.out], HQ6.out.2.2⟩
  rw [ho] at HO
  cases hp : pendI x
  · have HE : Hid (calmB x = decide (x.l ≤ 1)) := Lib.hid (by simp [calmB, ho, ← pend_eq ho, hp])
    rw [hp] at HP
    clear ho hp
    go_enter Tryd.func68, Tryd.ntmps68
    go_wp2_with fail
    refine (HF.out _).mono ?_
    generalize (w.alloc (.cells #[.int .i64 x.g0, .int .i64 x.g1, .int .i64 x.g2, .int .i64 x.g3, .int .i64 x.l, .int .i64 x.s, .int .i64 x.d] 24)).alloc (.cells #[.int .i64 0, .int .i64 0, .int .i64 0, .int .i64 0, .int .i64 0, .int .i64 0, .int .i64 0] 69) = W0 at *
    rintro e w1 ⟨rfl, b1⟩
    have HW : Hid (WmAt w w1.heap.size (w.heap.size + 1) x zeroSt (w1.alloc (.cells #[.int .i64 x.g0, .int .i64 x.g1, .int .i64 x.g2, .int .i64 x.g3, .int .i64 x.l, .int .i64 x.s, .int .i64 x.d] 69))) := Lib.hid ⟨MAt.new w1 x, ((HV0.out.keep b1).keep (below_one _ _)), (B0.out.trans (b1.mono B0.out.size)).trans ((below_one w1 (.cells #[.int .i64 x.g0, .int .i64 x.g1, .int .i64 x.g2, .int .i64 x.g3, .int .i64 x.l, .int .i64 x.s, .int .i64 x.d] 69)).mono (Nat.le_trans B0.out.size b1.size))⟩
    have hlt : w.heap.size + 1 < w1.heap.size := (HV0.out.keep b1).lt
    clear b1 HV0 B0
    go_wp2_with fail
    generalize w1.alloc (.cells #[.int .i64 x.g0, .int .i64 x.g1, .int .i64 x.g2, .int .i64 x.g3, .int .i64 x.l, .int .i64 x.s, .int .i64 x.d] 69) = W1 at *
    generalize w1.heap.size = b at *
    have hS0 : ∃ y, WmAt w b (w.heap.size + 1) x y W1.drew := ⟨_, HW.out.drew⟩
    have HTW := Lib.hid (fun v y (h : WmAt w b (w.heap.size + 1) x y v) => HT.out.keep h.2.2)
    clear HW
    refine region_held_w (S := fun v => ∃ y, WmAt w b (w.heap.size + 1) x y v) W1.drew rfl (by kernel_rfl) ?_
    generalize W1.drew = V0 at *
    refine wpAnyH_take (i := 0) (v := .agg #[.int .i64 x.g0, .int .i64 x.g1, .int .i64 x.g2, .int .i64 x.g3, .int .i64 x.l, .int .i64 x.s, .int .i64 x.d]) rfl (by kernel_rfl) (by kernel_rfl) (by kernel_rfl) (fun _ _ _ h => h) (.inl ⟨by rfl, fun w' hS' => by
      obtain ⟨y, h⟩ := hS'
      have ⟨y0, y1, y2, y3, y4, y5, y6⟩ := h.1.cells
      go_simp⟩) hS0 ?_
    obtain ⟨q0, hq0⟩ := hS0
    have HQ0 := Lib.hid hq0
    clear hq0
    refine wpAnyH_one (i := 1) (by kernel_rfl) rfl (fun K hK => ?_)
    go_simp
    refine (HO.out b _ HQ0.out.1 (HTW.out _ _ HQ0.out)).mono ?_
    rintro e w5 ⟨rfl, b5⟩
    have HQ5 := Lib.hid (HQ0.out.keep b5)
    refine hK.out _ _ ⟨_, HQ5.out⟩ (fun _ => ?_)
    clear hK K b5 HQ0
    refine wpAnyH_one (i := 2) (by kernel_rfl) rfl (fun K hK => ?_)
    go_simp
    refine hK.out _ _ ⟨_, HQ5.out⟩ (fun _ => ?_)
    clear hK K
    refine wpAnyH_one (i := 3) (by kernel_rfl) rfl (fun K hK => ?_)
    go_simp
    refine (HP.out b _ HQ5.out.1).mono ?_
    rintro e w6 ⟨rfl, rfl⟩
    refine hK.out _ _ ⟨_, HQ5.out⟩ (fun _ => ?_)
    clear hK K
    refine wpAnyH_one (i := 4) (by kernel_rfl) rfl (fun K hK => ?_)
    go_simp
    refine hK.out _ _ ⟨_, HQ5.out⟩ (fun _ => ?_)
    clear hK K
    refine wpAnyH_one (i := 5) (by kernel_rfl) rfl (fun K hK => ?_)
    go_simp
    refine hK.out _ _ ⟨_, HQ5.out⟩ (fun _ => ?_)
    clear hK K
    refine wpAnyH_one (i := 6) (by kernel_rfl) rfl (fun K hK => ?_)
    go_simp
    refine hK.out _ _ ⟨_, HQ5.out⟩ (fun _ => ?_)
    clear hK K
    refine wpAnyH_take (i := 7) (v := .pointer (some ⟨b, 4, none⟩)) rfl (by kernel_rfl) (by kernel_rfl) (by kernel_rfl) (fun _ _ _ h => h) (.inl ⟨by rfl, fun w' hS' => by
      obtain ⟨y, h⟩ := hS'
      have ⟨y0, y1, y2, y3, y4, y5, y6⟩ := h.1.cells
      go_simp⟩) ⟨_, HQ5.out⟩ ?_
    refine wpAnyH_take (i := 8) (v := .int .i64 x.l) rfl (by kernel_rfl) (by kernel_rfl) (by kernel_rfl) (fun _ _ _ h => h) (.inl ⟨by rfl, fun w' hS' => by
      obtain ⟨y, h⟩ := hS'
      have ⟨y0, y1, y2, y3, y4, y5, y6⟩ := h.1.cells
      go_simp⟩) ⟨_, HQ5.out⟩ ?_
    refine wpAnyH_take (i := 9) (v := .bool (decide (x.l ≤ 1))) rfl (by kernel_rfl) (by kernel_rfl) (by kernel_rfl) (fun _ _ _ h => h) (.inl ⟨by rfl, fun w' hS' => by
      obtain ⟨y, h⟩ := hS'
      have ⟨y0, y1, y2, y3, y4, y5, y6⟩ := h.1.cells
      go_simp⟩) ⟨_, HQ5.out⟩ ?_
    refine wpAnyH_take (i := 10) (v := .bool (decide (x.l ≤ 1))) rfl (by kernel_rfl) (by kernel_rfl) (by kernel_rfl) (fun _ _ _ h => h) (.inl ⟨by rfl, fun w' hS' => by
      obtain ⟨y, h⟩ := hS'
      have ⟨y0, y1, y2, y3, y4, y5, y6⟩ := h.1.cells
      go_simp⟩) ⟨_, HQ5.out⟩ ?_
    refine wpAnyH_one (i := 11) (by kernel_rfl) rfl (fun K hK => ?_)
    have ⟨r0, r1, r2, r3, r4, r5, r6⟩ := HQ5.out.2.1.cells
    have ⟨z0, z1, z2, z3, z4, z5, z6⟩ := HQ5.out.2.1.thaw
    have hl5 : w.heap.size + 1 < w5.heap.size := HQ5.out.2.1.lt
    have HQ6 := Lib.hid (HQ5.out.put hlt (by omega) x)
    go_simp
    refine hK.out _ _ ⟨_, HQ6.out⟩ (fun _ => ?_)
    clear hK K r0 r1 r2 r3 r4 r5 r6 z0 z1 z2 z3 z4 z5 z6
    refine wpAnyH_one (i := 12) (by kernel_rfl) rfl (fun K hK => ?_)
    go_simp
    refine hK.out _ _ ⟨_, HQ6.out⟩ (fun _ => ?_)
    clear hK K
    refine wpAnyH_done (by kernel_rfl) ?_ _
    go_wp2
    exact st_retB (y := x) rfl rfl rfl HQ6.out.2.1 Tryd.underlying69 rfl (by kernel_rfl) rfl ⟨by rw [HE.out], HQ6.out.2.2⟩
  · have HE : Hid (calmB x = false) := Lib.hid (by simp [calmB, ho, ← pend_eq ho, hp])
    rw [hp] at HP
    clear ho hp
    go_enter Tryd.func68, Tryd.ntmps68
    go_wp2_with fail
    refine (HF.out _).mono ?_
    generalize (w.alloc (.cells #[.int .i64 x.g0, .int .i64 x.g1, .int .i64 x.g2, .int .i64 x.g3, .int .i64 x.l, .int .i64 x.s, .int .i64 x.d] 24)).alloc (.cells #[.int .i64 0, .int .i64 0, .int .i64 0, .int .i64 0, .int .i64 0, .int .i64 0, .int .i64 0] 69) = W0 at *
    rintro e w1 ⟨rfl, b1⟩
    have HW : Hid (WmAt w w1.heap.size (w.heap.size + 1) x zeroSt (w1.alloc (.cells #[.int .i64 x.g0, .int .i64 x.g1, .int .i64 x.g2, .int .i64 x.g3, .int .i64 x.l, .int .i64 x.s, .int .i64 x.d] 69))) := Lib.hid ⟨MAt.new w1 x, ((HV0.out.keep b1).keep (below_one _ _)), (B0.out.trans (b1.mono B0.out.size)).trans ((below_one w1 (.cells #[.int .i64 x.g0, .int .i64 x.g1, .int .i64 x.g2, .int .i64 x.g3, .int .i64 x.l, .int .i64 x.s, .int .i64 x.d] 69)).mono (Nat.le_trans B0.out.size b1.size))⟩
    have hlt : w.heap.size + 1 < w1.heap.size := (HV0.out.keep b1).lt
    clear b1 HV0 B0
    go_wp2_with fail
    generalize w1.alloc (.cells #[.int .i64 x.g0, .int .i64 x.g1, .int .i64 x.g2, .int .i64 x.g3, .int .i64 x.l, .int .i64 x.s, .int .i64 x.d] 69) = W1 at *
    generalize w1.heap.size = b at *
    have hS0 : ∃ y, WmAt w b (w.heap.size + 1) x y W1.drew := ⟨_, HW.out.drew⟩
    have HTW := Lib.hid (fun v y (h : WmAt w b (w.heap.size + 1) x y v) => HT.out.keep h.2.2)
    clear HW
    refine region_held_w (S := fun v => ∃ y, WmAt w b (w.heap.size + 1) x y v) W1.drew rfl (by kernel_rfl) ?_
    generalize W1.drew = V0 at *
    refine wpAnyH_take (i := 0) (v := .agg #[.int .i64 x.g0, .int .i64 x.g1, .int .i64 x.g2, .int .i64 x.g3, .int .i64 x.l, .int .i64 x.s, .int .i64 x.d]) rfl (by kernel_rfl) (by kernel_rfl) (by kernel_rfl) (fun _ _ _ h => h) (.inl ⟨by rfl, fun w' hS' => by
      obtain ⟨y, h⟩ := hS'
      have ⟨y0, y1, y2, y3, y4, y5, y6⟩ := h.1.cells
      go_simp⟩) hS0 ?_
    obtain ⟨q0, hq0⟩ := hS0
    have HQ0 := Lib.hid hq0
    clear hq0
    refine wpAnyH_one (i := 1) (by kernel_rfl) rfl (fun K hK => ?_)
    go_simp
    refine (HO.out b _ HQ0.out.1 (HTW.out _ _ HQ0.out)).mono ?_
    rintro e w5 ⟨rfl, b5⟩
    have HQ5 := Lib.hid (HQ0.out.keep b5)
    refine hK.out _ _ ⟨_, HQ5.out⟩ (fun _ => ?_)
    clear hK K b5 HQ0
    refine wpAnyH_one (i := 2) (by kernel_rfl) rfl (fun K hK => ?_)
    go_simp
    refine hK.out _ _ ⟨_, HQ5.out⟩ (fun _ => ?_)
    clear hK K
    refine wpAnyH_one (i := 3) (by kernel_rfl) rfl (fun K hK => ?_)
    go_simp
    refine (HP.out b _ HQ5.out.1).mono ?_
    rintro e w6 ⟨rfl, rfl⟩
    refine hK.out _ _ ⟨_, HQ5.out⟩ (fun _ => ?_)
    clear hK K
    refine wpAnyH_one (i := 4) (by kernel_rfl) rfl (fun K hK => ?_)
    go_simp
    refine hK.out _ _ ⟨_, HQ5.out⟩ (fun _ => ?_)
    clear hK K
    refine wpAnyH_one (i := 5) (by kernel_rfl) rfl (fun K hK => ?_)
    go_simp
    refine hK.out _ _ ⟨_, HQ5.out⟩ (fun _ => ?_)
    clear hK K
    refine wpAnyH_one (i := 6) (by kernel_rfl) rfl (fun K hK => ?_)
    go_simp
    refine hK.out _ _ ⟨_, HQ5.out⟩ (fun _ => ?_)
    clear hK K
    refine wpAnyH_take (i := 7) (v := undef) rfl (by kernel_rfl) (by kernel_rfl) (by kernel_rfl) (fun _ _ _ h => h) (.inr ⟨by rfl, rfl⟩) ⟨_, HQ5.out⟩ ?_
    refine wpAnyH_take (i := 8) (v := undef) rfl (by kernel_rfl) (by kernel_rfl) (by kernel_rfl) (fun _ _ _ h => h) (.inr ⟨by rfl, rfl⟩) ⟨_, HQ5.out⟩ ?_
    refine wpAnyH_take (i := 9) (v := undef) rfl (by kernel_rfl) (by kernel_rfl) (by kernel_rfl) (fun _ _ _ h => h) (.inr ⟨by rfl, rfl⟩) ⟨_, HQ5.out⟩ ?_
    refine wpAnyH_take (i := 10) (v := .bool false) rfl (by kernel_rfl) (by kernel_rfl) (by kernel_rfl) (fun _ _ _ h => h) (.inl ⟨by rfl, fun w' hS' => by
      obtain ⟨y, h⟩ := hS'
      have ⟨y0, y1, y2, y3, y4, y5, y6⟩ := h.1.cells
      go_simp⟩) ⟨_, HQ5.out⟩ ?_
    refine wpAnyH_one (i := 11) (by kernel_rfl) rfl (fun K hK => ?_)
    have ⟨r0, r1, r2, r3, r4, r5, r6⟩ := HQ5.out.2.1.cells
    have ⟨z0, z1, z2, z3, z4, z5, z6⟩ := HQ5.out.2.1.thaw
    have hl5 : w.heap.size + 1 < w5.heap.size := HQ5.out.2.1.lt
    have HQ6 := Lib.hid (HQ5.out.put hlt (by omega) x)
    go_simp
    refine hK.out _ _ ⟨_, HQ6.out⟩ (fun _ => ?_)
    clear hK K r0 r1 r2 r3 r4 r5 r6 z0 z1 z2 z3 z4 z5 z6
    refine wpAnyH_one (i := 12) (by kernel_rfl) rfl (fun K hK => ?_)
    go_simp
    refine hK.out _ _ ⟨_, HQ6.out⟩ (fun _ => ?_)
    clear hK K
    refine wpAnyH_done (by kernel_rfl) ?_ _
    go_wp2
    exact st_retB (y := x) rfl rfl rfl HQ6.out.2.1 Tryd.underlying69 rfl (by kernel_rfl) rfl ⟨by rw [HE.out], HQ6.out.2.2⟩

end Go.Proofs.YtibadnfagoehmaaDoor

namespace Go.Proofs.YtibadnfagoehmaaDoor
open Go.RowKit

/-- The token, without its place, of a byte other than ESC. -/
def byteTok (b : Int) : Tok :=
  if b = 15 then ⟨5, 0, 0, 0, 0, 0⟩ else if b = 14 then ⟨5, 1, 0, 0, 0, 0⟩ else if b = 142 then ⟨6, 2, 0, 0, 0, 0⟩ else if b = 143 then ⟨6, 3, 0, 0, 0, 0⟩
  else if b = 32 then ⟨2, 0, 0, 0, 0, 0⟩ else if 33 ≤ b ∧ b ≤ 126 then ⟨3, b, 0, 0, 0, 0⟩ else if 160 ≤ b then ⟨4, b - 128, 0, 0, 0, 0⟩ else ⟨1, b, 0, 0, 0, 0⟩

set_option maxHeartbeats 2000000 in
theorem impl_byteToken (b : Int) (w : World) (h0 : 0 ≤ b) (h1 : b ≤ 65536) : Calls Tryd.prog 84 #[.int .i64 b] w (TokDone (byteTok b) w) := by
  by_cases c1 : b = 15
  · subst c1
    go_enter Tryd.func84, Tryd.ntmps84
    go_wp2
    exact tok_ret (y := ⟨5, 0, 0, 0, 0, 0⟩) rfl rfl rfl (heap_alloc_new _ _) Tryd.underlying38 rfl (by kernel_rfl) rfl (below_one _ _)
  by_cases c2 : b = 14
  · subst c2
    clear c1
    go_enter Tryd.func84, Tryd.ntmps84
    go_wp2
    exact tok_ret (y := ⟨5, 1, 0, 0, 0, 0⟩) rfl rfl rfl (heap_alloc_new _ _) Tryd.underlying38 rfl (by kernel_rfl) rfl (below_one _ _)
  by_cases c3 : b = 142
  · subst c3
    clear c1 c2
    go_enter Tryd.func84, Tryd.ntmps84
    go_wp2
    exact tok_ret (y := ⟨6, 2, 0, 0, 0, 0⟩) rfl rfl rfl (heap_alloc_new _ _) Tryd.underlying38 rfl (by kernel_rfl) rfl (below_one _ _)
  by_cases c4 : b = 143
  · subst c4
    clear c1 c2 c3
    go_enter Tryd.func84, Tryd.ntmps84
    go_wp2
    exact tok_ret (y := ⟨6, 3, 0, 0, 0, 0⟩) rfl rfl rfl (heap_alloc_new _ _) Tryd.underlying38 rfl (by kernel_rfl) rfl (below_one _ _)
  by_cases c5 : b = 32
  · subst c5
    clear c1 c2 c3 c4
    go_enter Tryd.func84, Tryd.ntmps84
    go_wp2
    exact tok_ret (y := ⟨2, 0, 0, 0, 0, 0⟩) rfl rfl rfl (heap_alloc_new _ _) Tryd.underlying38 rfl (by kernel_rfl) rfl (below_one _ _)
  have e1 : (b == 15) = false := by rw [beq_eq_false_iff_ne]; exact c1
  have e2 : (b == 14) = false := by rw [beq_eq_false_iff_ne]; exact c2
  have e3 : (b == 142) = false := by rw [beq_eq_false_iff_ne]; exact c3
  have e4 : (b == 143) = false := by rw [beq_eq_false_iff_ne]; exact c4
  have e5 : (b == 32) = false := by rw [beq_eq_false_iff_ne]; exact c5
  by_cases c6 : 33 ≤ b
  · by_cases c7 : b ≤ 126
    · have HE : Hid (byteTok b = ⟨3, b, 0, 0, 0, 0⟩) := Lib.hid (by rw [byteTok, if_neg c1, if_neg c2, if_neg c3, if_neg c4, if_neg c5, if_pos ⟨c6, c7⟩])
      clear c1 c2 c3 c4 c5
      go_enter Tryd.func84, Tryd.ntmps84
      go_wp2
      exact tok_ret HE.out rfl rfl (heap_alloc_new _ _) Tryd.underlying38 rfl (by kernel_rfl) rfl (below_one _ _)
    · have c8 : 126 < b := by omega
      by_cases c9 : 160 ≤ b
      · have HE : Hid (byteTok b = ⟨4, b - 128, 0, 0, 0, 0⟩) := Lib.hid (by rw [byteTok, if_neg c1, if_neg c2, if_neg c3, if_neg c4, if_neg c5, if_neg (by omega), if_pos c9])
        have u1 : IntKind.i64.wrap (b - 128) = b - 128 := IntWalk.i64_in _ (by omega)
        clear c1 c2 c3 c4 c5 c7
        go_enter Tryd.func84, Tryd.ntmps84
        go_wp2
        exact tok_ret HE.out rfl rfl (heap_alloc_new _ _) Tryd.underlying38 rfl (by kernel_rfl) rfl (below_one _ _)
      · have HE : Hid (byteTok b = ⟨1, b, 0, 0, 0, 0⟩) := Lib.hid (by rw [byteTok, if_neg c1, if_neg c2, if_neg c3, if_neg c4, if_neg c5, if_neg (by omega), if_neg c9])
        have c10 : b < 160 := by omega
        clear c1 c2 c3 c4 c5 c7 c9
        go_enter Tryd.func84, Tryd.ntmps84
        go_wp2
        exact tok_ret HE.out rfl rfl (heap_alloc_new _ _) Tryd.underlying38 rfl (by kernel_rfl) rfl (below_one _ _)
  · have HE : Hid (byteTok b = ⟨1, b, 0, 0, 0, 0⟩) := Lib.hid (by rw [byteTok, if_neg c1, if_neg c2, if_neg c3, if_neg c4, if_neg c5, if_neg (by omega), if_neg (by omega)])
    have c10 : b < 33 := by omega
    clear c1 c2 c3 c4 c5 c6
    go_enter Tryd.func84, Tryd.ntmps84
    go_wp2
    exact tok_ret HE.out rfl rfl (heap_alloc_new _ _) Tryd.underlying38 rfl (by kernel_rfl) rfl (below_one _ _)

end Go.Proofs.YtibadnfagoehmaaDoor

namespace Go.Proofs.YtibadnfagoehmaaDoor
open Go.RowKit

theorem tokField0 (y : Tok) (w : World) : (Instr.field 38 (.agg #[.int .i64 y.k, .int .i64 y.a, .int .i64 y.b, .int .i64 y.c, .int .i64 y.p, .int .i64 y.n]) 0).run Tryd.prog w = .ok (.int .i64 y.k) w := by kernel_rfl

def ctlB (a : Int) : Bool := decide (0 ≤ a) && decide (a < 160) && decide (a ≠ 27) && decide ((byteTok a).k = 1)
theorem ctlB_iff (a : Int) : ctlB a = true ↔ ((0 ≤ a ∧ a ≤ 13) ∨ (16 ≤ a ∧ a ≤ 31 ∧ a ≠ 27) ∨ a = 127 ∨ (128 ≤ a ∧ a ≤ 159 ∧ a ≠ 142 ∧ a ≠ 143)) := by
  simp only [ctlB, Bool.and_eq_true, decide_eq_true_eq]
  unfold byteTok
  repeat' split
  all_goals dsimp only
  all_goals omega

set_option maxHeartbeats 1000000 in
theorem impl_isControl (a : Int) (w : World) : Calls Tryd.prog 125 #[.int .i64 a] w fun e w' => e = .returned (.bool (ctlB a)) ∧ Below w.heap.size w w' := by
  by_cases h0 : a < 0
  · have HE : Hid (ctlB a = false) := Lib.hid (by simp [ctlB]; omega)
    go_enter Tryd.func125, Tryd.ntmps125
    go_wp2
    go_ret
    exact ⟨ret_bool HE.out.symm, Below.refl _ _⟩
  have h0' : 0 ≤ a := by omega
  by_cases h1 : 160 ≤ a
  · have HE : Hid (ctlB a = false) := Lib.hid (by simp [ctlB]; omega)
    clear h0
    go_enter Tryd.func125, Tryd.ntmps125
    go_wp2
    go_ret
    exact ⟨ret_bool HE.out.symm, Below.refl _ _⟩
  have h1' : a < 160 := by omega
  by_cases h2 : a = 27
  · subst h2
    clear h0 h1 h0' h1'
    go_enter Tryd.func125, Tryd.ntmps125
    go_wp2
    go_ret
    exact ⟨ret_bool (by decide), Below.refl _ _⟩
  have HE : Hid (ctlB a = ((byteTok a).k == 1)) := Lib.hid (by
    have q0 : decide (0 ≤ a) = true := by simpa using h0'
    have q1 : decide (a < 160) = true := by simpa using h1'
    have q2 : decide (a ≠ 27) = true := by simpa using h2
    rw [ctlB, q0, q1, q2]
    rfl)
  have e2 : (a != 27) = true := by simpa using h2
  have HF := Lib.hid (tokField0 (byteTok a))
  clear h0 h1 h2
  generalize hy : byteTok a = y at *
  have HY := Lib.hid hy
  clear hy
  have fy := HF.out
  go_enter Tryd.func125, Tryd.ntmps125
  go_wp2_with fail
  refine (impl_byteToken a w h0' (by omega)).mono ?_
  rintro e w1 ⟨rfl, b1⟩
  rw [HY.out]
  unfold tokV
  go_wp2
  go_ret
  exact ⟨ret_bool HE.out.symm, b1⟩

def valB (k a : Int) : Bool :=
  if k = 1 then ctlB a else if k = 3 then inB a 33 126 else if k = 4 then inB a 32 127 else if k = 5 then inB a 0 3 else if k = 6 then decide (a = 2 ∨ a = 3)
  else if k = 2 ∨ k = 8 ∨ k = 9 then decide (a = 0) else false

set_option maxHeartbeats 2000000 in
theorem impl_tokenValueOK (k a : Int) (w : World) : Calls Tryd.prog 122 #[.int .i64 k, .int .i64 a] w fun e w' => e = .returned (.bool (valB k a)) ∧ Below w.heap.size w w' := by
  by_cases k1 : k = 1
  · subst k1
    go_enter Tryd.func122, Tryd.ntmps122
    go_wp2_with fail
    refine (impl_isControl a w).mono ?_
    rintro e w1 ⟨rfl, b1⟩
    go_wp2
    go_ret
    exact ⟨rfl, b1⟩
  by_cases k3 : k = 3
  · subst k3
    clear k1
    go_enter Tryd.func122, Tryd.ntmps122
    go_wp2_with fail
    refine (impl_isCode94 a w).mono ?_
    rintro e w1 ⟨rfl, rfl⟩
    go_wp2
    go_ret
    exact ⟨rfl, Below.refl _ _⟩
  by_cases k4 : k = 4
  · subst k4
    clear k1 k3
    have HE : Hid (valB 4 a = (decide (32 ≤ a) && decide (a ≤ 127))) := Lib.hid rfl
    rw [HE.out]
    by_cases h1 : 32 ≤ a
    · by_cases h2 : a ≤ 127
      all_goals
        go_enter Tryd.func122, Tryd.ntmps122
        go_wp2
        go_ret
        exact ⟨ret_bool (by simp [h1, h2]), Below.refl _ _⟩
    · have HF := Lib.hid (show decide (32 ≤ a) = false by simpa using h1)
      go_enter Tryd.func122, Tryd.ntmps122
      go_wp2
      go_ret
      exact ⟨ret_bool (by rw [HF.out]; rfl), Below.refl _ _⟩
  by_cases k5 : k = 5
  · subst k5
    clear k1 k3 k4
    have HE : Hid (valB 5 a = (decide (0 ≤ a) && decide (a ≤ 3))) := Lib.hid rfl
    rw [HE.out]
    by_cases h1 : 0 ≤ a
    · by_cases h2 : a ≤ 3
      all_goals
        go_enter Tryd.func122, Tryd.ntmps122
        go_wp2
        go_ret
        exact ⟨ret_bool (by simp [h1, h2]), Below.refl _ _⟩
    · have HF := Lib.hid (show decide (0 ≤ a) = false by simpa using h1)
      go_enter Tryd.func122, Tryd.ntmps122
      go_wp2
      go_ret
      exact ⟨ret_bool (by rw [HF.out]; rfl), Below.refl _ _⟩
  by_cases k6 : k = 6
  · subst k6
    clear k1 k3 k4 k5
    have HE : Hid (valB 6 a = decide (a = 2 ∨ a = 3)) := Lib.hid rfl
    rw [HE.out]
    by_cases h1 : a = 2
    · subst h1
      go_enter Tryd.func122, Tryd.ntmps122
      go_wp2
      go_ret
      exact ⟨ret_bool (by decide), Below.refl _ _⟩
    · have e1 : (a == 2) = false := by simpa using h1
      have HX : Hid ((a == 3) = decide (a = 2 ∨ a = 3)) := Lib.hid (by simp [h1]; rfl)
      clear h1
      go_enter Tryd.func122, Tryd.ntmps122
      go_wp2
      go_ret
      exact ⟨ret_bool HX.out, Below.refl _ _⟩
  by_cases k2 : k = 2 ∨ k = 8 ∨ k = 9
  · have HE : Hid ((a == 0) = valB k a) := Lib.hid (by
      rw [valB, if_neg k1, if_neg k3, if_neg k4, if_neg k5, if_neg k6, if_pos k2]
      rfl)
    clear k1 k3 k4 k5 k6
    rcases k2 with rfl | rfl | rfl
    all_goals
      go_enter Tryd.func122, Tryd.ntmps122
      go_wp2
      go_ret
      exact ⟨ret_bool HE.out, Below.refl _ _⟩
  · have HE : Hid (false = valB k a) := Lib.hid (by rw [valB, if_neg k1, if_neg k3, if_neg k4, if_neg k5, if_neg k6, if_neg k2])
    have e1 : (k == 1) = false := by rw [beq_eq_false_iff_ne]; exact k1
    have e3 : (k == 3) = false := by rw [beq_eq_false_iff_ne]; exact k3
    have e4 : (k == 4) = false := by rw [beq_eq_false_iff_ne]; exact k4
    have e5 : (k == 5) = false := by rw [beq_eq_false_iff_ne]; exact k5
    have e6 : (k == 6) = false := by rw [beq_eq_false_iff_ne]; exact k6
    have e2 : (k == 2) = false := by rw [beq_eq_false_iff_ne]; omega
    have e8 : (k == 8) = false := by rw [beq_eq_false_iff_ne]; omega
    have e9 : (k == 9) = false := by rw [beq_eq_false_iff_ne]; omega
    clear k1 k2 k3 k4 k5 k6
    go_enter Tryd.func122, Tryd.ntmps122
    go_wp2
    go_ret
    exact ⟨ret_bool HE.out, Below.refl _ _⟩

def fldB (x : Tok) : Bool := if x.k = 7 then inB x.b 1 3 && (regB x.b x.a && (decide (64 ≤ x.c) && decide (x.c ≤ 126))) else valB x.k x.a && (decide (x.b = 0) && decide (x.c = 0))

set_option maxHeartbeats 2000000 in
set_option maxRecDepth 100000 in
theorem impl_tokenFieldsOK (x : Tok) (w : World) : Calls Tryd.prog 91 #[tokV x] w fun e w' => e = .returned (.bool (fldB x)) ∧ Below w.heap.size w w' := by
  obtain ⟨k, a, b, c, p, n⟩ := x
  have b0 := below_one w (.cells #[.int .i64 k, .int .i64 a, .int .i64 b, .int .i64 c, .int .i64 p, .int .i64 n] 38)
  have hX := TokAt.new w ⟨k, a, b, c, p, n⟩
  unfold tokV
  by_cases k7 : k = 7
  · have HE : Hid (fldB ⟨k, a, b, c, p, n⟩ = (inB b 1 3 && (regB b a && (decide (64 ≤ c) && decide (c ≤ 126))))) := Lib.hid (by rw [fldB, if_pos k7])
    rw [HE.out]
    subst k7
    clear hX HE
    have HK := Lib.hid (impl_isKind b)
    have HR := Lib.hid (impl_isRegisterFor b a)
    generalize inB b 1 3 = kb at *
    generalize regB b a = rb at *
    cases kb
    · go_enter Tryd.func91, Tryd.ntmps91
      go_wp2_with fail
      refine (HK.out _).mono ?_
      rintro e w1 ⟨rfl, rfl⟩
      go_wp2
      go_ret
      exact ⟨rfl, b0⟩
    cases rb
    · go_enter Tryd.func91, Tryd.ntmps91
      go_wp2_with fail
      refine (HK.out _).mono ?_
      rintro e w1 ⟨rfl, rfl⟩
      go_wp2_with fail
      refine (HR.out _).mono ?_
      rintro e w1 ⟨rfl, rfl⟩
      go_wp2
      go_ret
      exact ⟨rfl, b0⟩
    by_cases c1 : 64 ≤ c
    · have HD : Hid (decide (c ≤ 126) = (true && (true && (decide (64 ≤ c) && decide (c ≤ 126))))) := Lib.hid (by simp [c1])
      rw [← HD.out]
      go_enter Tryd.func91, Tryd.ntmps91
      go_wp2_with fail
      refine (HK.out _).mono ?_
      rintro e w1 ⟨rfl, rfl⟩
      go_wp2_with fail
      refine (HR.out _).mono ?_
      rintro e w1 ⟨rfl, rfl⟩
      go_wp2
      go_ret
      exact ⟨rfl, b0⟩
    · have HD : Hid (false = (true && (true && (decide (64 ≤ c) && decide (c ≤ 126))))) := Lib.hid (by simp [c1])
      rw [← HD.out]
      go_enter Tryd.func91, Tryd.ntmps91
      go_wp2_with fail
      refine (HK.out _).mono ?_
      rintro e w1 ⟨rfl, rfl⟩
      go_wp2_with fail
      refine (HR.out _).mono ?_
      rintro e w1 ⟨rfl, rfl⟩
      go_wp2
      go_ret
      exact ⟨rfl, b0⟩
  · have HE : Hid (fldB ⟨k, a, b, c, p, n⟩ = (valB k a && (decide (b = 0) && decide (c = 0)))) := Lib.hid (by rw [fldB, if_neg k7])
    have e7 : (k == 7) = false := by rw [beq_eq_false_iff_ne]; exact k7
    rw [HE.out]
    clear k7
    go_enter Tryd.func91, Tryd.ntmps91
    go_wp2_with fail
    refine (impl_tokenValueOK k a _).mono ?_
    rintro e w1 ⟨rfl, b1⟩
    have B1 : Below w.heap.size w w1 := b0.trans (b1.mono b0.size)
    have ⟨y0, y1, y2, y3, y4, y5⟩ := (hX.keep b1).cells
    clear hX b0 b1
    cases hv : valB k a
    · have HV := Lib.hid hv
      go_wp2
      go_ret
      exact ⟨ret_bool (by rw [HV.out]; rfl), B1⟩
    · by_cases hb : b = 0
      · subst hb
        go_wp2
        go_ret
        exact ⟨ret_bool rfl, B1⟩
      · have eb : (b == 0) = false := by rw [beq_eq_false_iff_ne]; exact hb
        go_wp2
        go_ret
        exact ⟨ret_bool (by simp [hb]), B1⟩

def lenB (x : Tok) : Bool :=
  if x.k = 5 ∧ 2 ≤ x.a then decide (x.n = 2) else if x.k = 6 then decide (x.n = 1 ∨ x.n = 2) else if x.k = 7 then decide (x.n = 3 ∨ x.n = 4) else if x.k = 8 ∨ x.k = 9 then decide (1 ≤ x.n) && decide (x.n ≤ 65536) else decide (x.n = 1)

set_option maxHeartbeats 2000000 in
set_option maxRecDepth 100000 in
theorem impl_tokenLengthOK (x : Tok) (w : World) : Calls Tryd.prog 92 #[tokV x] w fun e w' => e = .returned (.bool (lenB x)) ∧ Below w.heap.size w w' := by
  obtain ⟨k, a, b, c, p, n⟩ := x
  have b0 := Lib.hid (below_one w (.cells #[.int .i64 k, .int .i64 a, .int .i64 b, .int .i64 c, .int .i64 p, .int .i64 n] 38))
  unfold tokV
  by_cases k5 : k = 5
  · by_cases a2 : 2 ≤ a
    · have HE : Hid ((n == 2) = lenB ⟨k, a, b, c, p, n⟩) := Lib.hid (by rw [lenB, if_pos ⟨k5, a2⟩]; rfl)
      subst k5
      go_enter Tryd.func92, Tryd.ntmps92
      go_wp2
      go_ret
      exact ⟨ret_bool HE.out, b0.out⟩
    · have HE : Hid ((n == 1) = lenB ⟨k, a, b, c, p, n⟩) := Lib.hid (by rw [lenB, if_neg (fun h => a2 h.2), if_neg (by dsimp only; omega), if_neg (by dsimp only; omega), if_neg (by dsimp only; omega)]; rfl)
      subst k5
      go_enter Tryd.func92, Tryd.ntmps92
      go_wp2
      go_ret
      exact ⟨ret_bool HE.out, b0.out⟩
  have e5 : (k == 5) = false := by rw [beq_eq_false_iff_ne]; exact k5
  by_cases k6 : k = 6
  · have HE : Hid (lenB ⟨k, a, b, c, p, n⟩ = decide (n = 1 ∨ n = 2)) := Lib.hid (by rw [lenB, if_neg (fun h => k5 h.1), if_pos k6])
    rw [HE.out]
    subst k6
    clear k5 e5
    by_cases n1 : n = 1
    · subst n1
      go_enter Tryd.func92, Tryd.ntmps92
      go_wp2
      go_ret
      exact ⟨ret_bool (by decide), b0.out⟩
    · have e1 : (n == 1) = false := by rw [beq_eq_false_iff_ne]; exact n1
      go_enter Tryd.func92, Tryd.ntmps92
      go_wp2
      go_ret
      exact ⟨ret_bool (by simp [n1]; rfl), b0.out⟩
  have e6 : (k == 6) = false := by rw [beq_eq_false_iff_ne]; exact k6
  by_cases k7 : k = 7
  · have HE : Hid (lenB ⟨k, a, b, c, p, n⟩ = decide (n = 3 ∨ n = 4)) := Lib.hid (by rw [lenB, if_neg (fun h => k5 h.1), if_neg k6, if_pos k7])
    rw [HE.out]
    subst k7
    clear k5 e5 k6 e6
    by_cases n1 : n = 3
    · subst n1
      go_enter Tryd.func92, Tryd.ntmps92
      go_wp2
      go_ret
      exact ⟨ret_bool (by decide), b0.out⟩
    · have e1 : (n == 3) = false := by rw [beq_eq_false_iff_ne]; exact n1
      go_enter Tryd.func92, Tryd.ntmps92
      go_wp2
      go_ret
      exact ⟨ret_bool (by simp [n1]; rfl), b0.out⟩
  have e7 : (k == 7) = false := by rw [beq_eq_false_iff_ne]; exact k7
  by_cases k8 : k = 8 ∨ k = 9
  · have HE : Hid (lenB ⟨k, a, b, c, p, n⟩ = (decide (1 ≤ n) && decide (n ≤ 65536))) := Lib.hid (by rw [lenB, if_neg (fun h => k5 h.1), if_neg k6, if_neg k7, if_pos k8])
    rw [HE.out]
    clear k5 e5 k6 e6 k7 e7 HE
    by_cases n1 : 1 ≤ n
    · by_cases n2 : n ≤ 65536
      all_goals
        rcases k8 with rfl | rfl
        all_goals
          go_enter Tryd.func92, Tryd.ntmps92
          go_wp2
          go_ret
          exact ⟨ret_bool (by simp [n1, n2]), b0.out⟩
    · have HF := Lib.hid (show decide (1 ≤ n) = false by simpa using n1)
      rcases k8 with rfl | rfl
      all_goals
        go_enter Tryd.func92, Tryd.ntmps92
        go_wp2
        go_ret
        exact ⟨ret_bool (by rw [HF.out]; rfl), b0.out⟩
  · have e8 : (k == 8) = false := by rw [beq_eq_false_iff_ne]; omega
    have e9 : (k == 9) = false := by rw [beq_eq_false_iff_ne]; omega
    have HE : Hid ((n == 1) = lenB ⟨k, a, b, c, p, n⟩) := Lib.hid (by rw [lenB, if_neg (fun h => k5 h.1), if_neg k6, if_neg k7, if_neg k8]; rfl)
    clear k5 k6 k7 k8
    go_enter Tryd.func92, Tryd.ntmps92
    go_wp2
    go_ret
    exact ⟨ret_bool HE.out, b0.out⟩

def tokOKI (x : Tok) : Bool := decide (0 ≤ x.p) && (decide (x.p ≤ 65536) && (fldB x && lenB x))
theorem regB_iff (kd g : Int) : regB kd g = true ↔ (0 ≤ g ∧ g ≤ 3) ∧ ¬ (kd = 2 ∧ g = 0) := by
  unfold regB inB
  rw [Bool.and_eq_true, Bool.and_eq_true, decide_eq_true_eq, decide_eq_true_eq, Bool.not_eq_true', Bool.and_eq_false_iff, decide_eq_false_iff_not, decide_eq_false_iff_not]
  omega
theorem okI1 (a b c p n : Int) : tokOKI ⟨1, a, b, c, p, n⟩ = true ↔ tokOKP ⟨1, a, b, c, p, n⟩ := by
  show (decide (0 ≤ p) && (decide (p ≤ 65536) && ((ctlB a && (decide (b = 0) && decide (c = 0))) && decide (n = 1)))) = true ↔ _
  unfold tokOKP
  simp only [Bool.and_eq_true, decide_eq_true_eq, ctlB_iff, Int.reduceEq, false_and, true_and, or_false]
  omega
theorem okI2 (a b c p n : Int) : tokOKI ⟨2, a, b, c, p, n⟩ = true ↔ tokOKP ⟨2, a, b, c, p, n⟩ := by
  show (decide (0 ≤ p) && (decide (p ≤ 65536) && ((decide (a = 0) && (decide (b = 0) && decide (c = 0))) && decide (n = 1)))) = true ↔ _
  unfold tokOKP
  simp only [Bool.and_eq_true, decide_eq_true_eq, Int.reduceEq, false_and, true_and, false_or, or_false]
  omega
theorem okI3 (a b c p n : Int) : tokOKI ⟨3, a, b, c, p, n⟩ = true ↔ tokOKP ⟨3, a, b, c, p, n⟩ := by
  show (decide (0 ≤ p) && (decide (p ≤ 65536) && ((inB a 33 126 && (decide (b = 0) && decide (c = 0))) && decide (n = 1)))) = true ↔ _
  unfold tokOKP
  simp only [Bool.and_eq_true, decide_eq_true_eq, inB, Int.reduceEq, false_and, true_and, false_or, or_false]
  omega
theorem okI4 (a b c p n : Int) : tokOKI ⟨4, a, b, c, p, n⟩ = true ↔ tokOKP ⟨4, a, b, c, p, n⟩ := by
  show (decide (0 ≤ p) && (decide (p ≤ 65536) && ((inB a 32 127 && (decide (b = 0) && decide (c = 0))) && decide (n = 1)))) = true ↔ _
  unfold tokOKP
  simp only [Bool.and_eq_true, decide_eq_true_eq, inB, Int.reduceEq, false_and, true_and, false_or, or_false]
  omega
theorem okI6 (a b c p n : Int) : tokOKI ⟨6, a, b, c, p, n⟩ = true ↔ tokOKP ⟨6, a, b, c, p, n⟩ := by
  show (decide (0 ≤ p) && (decide (p ≤ 65536) && ((decide (a = 2 ∨ a = 3) && (decide (b = 0) && decide (c = 0))) && decide (n = 1 ∨ n = 2)))) = true ↔ _
  unfold tokOKP
  simp only [Bool.and_eq_true, decide_eq_true_eq, Int.reduceEq, false_and, true_and, false_or, or_false]
  omega
theorem okI7 (a b c p n : Int) : tokOKI ⟨7, a, b, c, p, n⟩ = true ↔ tokOKP ⟨7, a, b, c, p, n⟩ := by
  show (decide (0 ≤ p) && (decide (p ≤ 65536) && ((inB b 1 3 && (regB b a && (decide (64 ≤ c) && decide (c ≤ 126)))) && decide (n = 3 ∨ n = 4)))) = true ↔ _
  unfold tokOKP
  simp only [Bool.and_eq_true, decide_eq_true_eq, inB, regB_iff, Int.reduceEq, false_and, true_and, false_or, or_false]
  omega
theorem okI8 (a b c p n : Int) : tokOKI ⟨8, a, b, c, p, n⟩ = true ↔ tokOKP ⟨8, a, b, c, p, n⟩ := by
  show (decide (0 ≤ p) && (decide (p ≤ 65536) && ((decide (a = 0) && (decide (b = 0) && decide (c = 0))) && (decide (1 ≤ n) && decide (n ≤ 65536))))) = true ↔ _
  unfold tokOKP
  simp only [Bool.and_eq_true, decide_eq_true_eq, Int.reduceEq, false_and, true_and, false_or, or_false]
  omega
theorem okI9 (a b c p n : Int) : tokOKI ⟨9, a, b, c, p, n⟩ = true ↔ tokOKP ⟨9, a, b, c, p, n⟩ := by
  show (decide (0 ≤ p) && (decide (p ≤ 65536) && ((decide (a = 0) && (decide (b = 0) && decide (c = 0))) && (decide (1 ≤ n) && decide (n ≤ 65536))))) = true ↔ _
  unfold tokOKP
  simp only [Bool.and_eq_true, decide_eq_true_eq, Int.reduceEq, false_and, true_and, false_or]
  omega
theorem okI5 (a b c p n : Int) : tokOKI ⟨5, a, b, c, p, n⟩ = true ↔ tokOKP ⟨5, a, b, c, p, n⟩ := by
  by_cases a2 : 2 ≤ a
  · have hl : lenB ⟨5, a, b, c, p, n⟩ = decide (n = 2) := by rw [lenB, if_pos ⟨rfl, a2⟩]
    show (decide (0 ≤ p) && (decide (p ≤ 65536) && ((inB a 0 3 && (decide (b = 0) && decide (c = 0))) && lenB ⟨5, a, b, c, p, n⟩))) = true ↔ _
    rw [hl]
    unfold tokOKP
    simp only [Bool.and_eq_true, decide_eq_true_eq, inB, Int.reduceEq, false_and, true_and, false_or, or_false]
    omega
  · have hl : lenB ⟨5, a, b, c, p, n⟩ = decide (n = 1) := by rw [lenB, if_neg (fun h => a2 h.2)]; rfl
    show (decide (0 ≤ p) && (decide (p ≤ 65536) && ((inB a 0 3 && (decide (b = 0) && decide (c = 0))) && lenB ⟨5, a, b, c, p, n⟩))) = true ↔ _
    rw [hl]
    unfold tokOKP
    simp only [Bool.and_eq_true, decide_eq_true_eq, inB, Int.reduceEq, false_and, true_and, false_or, or_false]
    omega
theorem tokOKI_eq (x : Tok) : tokOKI x = tokOKB x := by
  refine tokOKB_of ?_
  obtain ⟨k, a, b, c, p, n⟩ := x
  by_cases hk : k < 1 ∨ 9 < k
  · have h1 : valB k a = false := by
      rw [valB, if_neg (by omega), if_neg (by omega), if_neg (by omega), if_neg (by omega), if_neg (by omega), if_neg (by omega)]
    have h2 : fldB ⟨k, a, b, c, p, n⟩ = false := by
      rw [fldB, if_neg (by dsimp only; omega)]
      dsimp only
      rw [h1]
      rfl
    unfold tokOKI
    rw [h2]
    unfold tokOKP
    constructor
    · intro h; simp at h
    · intro h; exfalso; dsimp only at h; omega
  · have : k = 1 ∨ k = 2 ∨ k = 3 ∨ k = 4 ∨ k = 5 ∨ k = 6 ∨ k = 7 ∨ k = 8 ∨ k = 9 := by omega
    rcases this with rfl | rfl | rfl | rfl | rfl | rfl | rfl | rfl | rfl
    · exact okI1 a b c p n
    · exact okI2 a b c p n
    · exact okI3 a b c p n
    · exact okI4 a b c p n
    · exact okI5 a b c p n
    · exact okI6 a b c p n
    · exact okI7 a b c p n
    · exact okI8 a b c p n
    · exact okI9 a b c p n

set_option maxHeartbeats 2000000 in
set_option maxRecDepth 100000 in
theorem impl_tokenOK (x : Tok) (w : World) : Calls Tryd.prog 48 #[tokV x] w fun e w' => e = .returned (.bool (tokOKB x)) ∧ Below w.heap.size w w' := by
  have HO := Lib.hid (tokOKI_eq x)
  rw [← HO.out]
  have HF := Lib.hid (impl_tokenFieldsOK x)
  have HL := Lib.hid (impl_tokenLengthOK x)
  have HX := Lib.hid (show tokOKI x = (decide (0 ≤ x.p) && (decide (x.p ≤ 65536) && (fldB x && lenB x))) from rfl)
  rw [HX.out]
  generalize fldB x = fb at *
  generalize lenB x = lb at *
  clear HO HX
  obtain ⟨k, a, b, c, p, n⟩ := x
  have b0 := below_one w (.cells #[.int .i64 k, .int .i64 a, .int .i64 b, .int .i64 c, .int .i64 p, .int .i64 n] 38)
  have hX := TokAt.new w ⟨k, a, b, c, p, n⟩
  unfold tokV at HF HL ⊢
  dsimp only at *
  by_cases p0 : 0 ≤ p
  · by_cases p1 : p ≤ 65536
    · have HD : Hid ((decide (0 ≤ p) && (decide (p ≤ 65536) && (fb && lb))) = (fb && lb)) := Lib.hid (by simp [p0, p1])
      rw [HD.out]
      go_enter Tryd.func48, Tryd.ntmps48
      go_wp2_with fail
      refine (HF.out _).mono ?_
      rintro e w1 ⟨rfl, b1⟩
      have B1 : Below w.heap.size w w1 := b0.trans (b1.mono b0.size)
      have ⟨y0, y1, y2, y3, y4, y5⟩ := (hX.keep b1).cells
      dsimp only at y0 y1 y2 y3 y4 y5
      clear hX b0 b1
      cases fb
      · go_wp2
        go_ret
        exact ⟨rfl, B1⟩
      · go_wp2_with fail
        refine (HL.out _).mono ?_
        rintro e w2 ⟨rfl, b2⟩
        have B2 : Below w.heap.size w w2 := B1.trans (b2.mono B1.size)
        go_wp2
        go_ret
        exact ⟨ret_bool (by simp), B2⟩
    · have HD : Hid ((decide (0 ≤ p) && (decide (p ≤ 65536) && (fb && lb))) = false) := Lib.hid (by simp [p1])
      rw [HD.out]
      clear hX
      go_enter Tryd.func48, Tryd.ntmps48
      go_wp2
      go_ret
      exact ⟨rfl, b0⟩
  · have HD : Hid ((decide (0 ≤ p) && (decide (p ≤ 65536) && (fb && lb))) = false) := Lib.hid (by simp [p0])
    rw [HD.out]
    clear hX
    go_enter Tryd.func48, Tryd.ntmps48
    go_wp2
    go_ret
    exact ⟨rfl, b0⟩

end Go.Proofs.YtibadnfagoehmaaDoor

namespace Go.Proofs.YtibadnfagoehmaaDoor
open Go.RowKit

def ownI (r : Int) : Bool := (r == 32) || (decide (r < 128) && ctlB r)
theorem ownI_iff {r : Int} (h : okB r = true) : ownI r = (ownR r && (decide (r ≠ 14) && (decide (r ≠ 15) && decide (r ≠ 27)))) := by
  have ⟨h0, _, _⟩ := okB_true h
  have hc := ctlB_iff r
  rw [Bool.eq_iff_iff]
  simp only [ownI, ownR, Bool.or_eq_true, Bool.and_eq_true, decide_eq_true_eq, beq_iff_eq, hc]
  omega

theorem impl_isOwnByte (r : Int) (w : World) : Calls Tryd.prog 102 #[.int .i64 r] w fun e w' => e = .returned (.bool (ownI r)) ∧ Below w.heap.size w w' := by
  by_cases h32 : r = 32
  · have HE : Hid (ownI r = true) := Lib.hid (by simp [ownI, h32])
    have e32 : (r == 32) = true := by simp [h32]
    clear h32
    go_enter Tryd.func102, Tryd.ntmps102
    go_wp2
    go_ret
    exact ⟨ret_bool HE.out.symm, Below.refl _ _⟩
  have e32 : (r == 32) = false := by simp [h32]
  by_cases h128 : r < 128
  · have HE : Hid (ownI r = ctlB r) := Lib.hid (by simp [ownI, h32, h128])
    have e128 : decide (r < 128) = true := by simp [h128]
    clear h32 h128
    go_enter Tryd.func102, Tryd.ntmps102
    go_wp2_with fail
    refine (impl_isControl r _).mono ?_
    rintro e w1 ⟨rfl, b1⟩
    generalize ctlB r = q at *
    go_wp2
    go_ret
    exact ⟨ret_bool HE.out.symm, b1⟩
  · have HE : Hid (ownI r = false) := Lib.hid (by simp [ownI, h32, h128])
    have e128 : decide (r < 128) = false := by simp [h128]
    clear h32 h128
    go_enter Tryd.func102, Tryd.ntmps102
    go_wp2
    go_ret
    exact ⟨ret_bool HE.out.symm, Below.refl _ _⟩

theorem codeS_none (q r : Int) (h : r = 14 ∨ r = 15 ∨ r = 27) : codeS (setSpans q) r = 0 := by
  unfold setSpans
  repeat' split
  all_goals rcases h with rfl | rfl | rfl <;> rfl
theorem canG_none (g r : Int) (h : r = 14 ∨ r = 15 ∨ r = 27) (qs : List Int) : canG g r qs = false := by
  unfold canG
  rw [List.any_eq_false]
  intro q _
  simp [codeS_none q r h]
/-- What the program asks. -/
theorem canB_own {n r : Int} (hr : okB r = true) (h : ownI r = true) : canB n r = true := by
  rw [ownI_iff hr, Bool.and_eq_true] at h
  unfold canB
  rw [if_pos h.1]
  exact h.2
theorem canB_other {n r : Int} (hr : okB r = true) (h : ownI r = false) (b : Bool) (hb : (canG 0 r (prSet0 n) || (canG 1 r (prSet1 n) || canG 2 r (prSet2 n))) = b) : canB n r = b := by
  unfold canB
  split
  · next ho =>
    rw [ownI_iff hr, ho, Bool.true_and] at h
    have hx : r = 14 ∨ r = 15 ∨ r = 27 := by
      simp only [Bool.and_eq_false_iff, decide_eq_false_iff_not, Decidable.not_not] at h
      exact h
    rw [canG_none 0 r hx, canG_none 1 r hx, canG_none 2 r hx] at hb
    rw [h, ← hb]
    rfl
  · exact hb
theorem canI_yes {n r : Int} {g : Nat} (hr : okB r = true) (ho : ownI r = false) (hg : g < 4) (h : canG g r (prSets n g) = true) : canB n r = true := by
  refine canB_other hr ho true ?_
  rcases (show g = 0 ∨ g = 1 ∨ g = 2 ∨ g = 3 by omega) with rfl | rfl | rfl | rfl
  · simp [show canG 0 r (prSet0 n) = true from h]
  · simp [show canG 1 r (prSet1 n) = true from h]
  · simp [show canG 2 r (prSet2 n) = true from h]
  · simp [canG, prSets] at h
theorem canI_no {n r : Int} (hr : okB r = true) (ho : ownI r = false) (h : ∀ g : Nat, g < 4 → canG g r (prSets n g) = false) : canB n r = false := by
  refine canB_other hr ho false ?_
  simp [show canG 0 r (prSet0 n) = false from h 0 (by decide), show canG 1 r (prSet1 n) = false from h 1 (by decide), show canG 2 r (prSet2 n) = false from h 2 (by decide)]
/-- A world that comes of a first one with the table, a block g made since being written. -/
theorem TabSets.since {w0 w w' : World} {g : Nat} (ht : TabSets w0) (b0 : Below w0.heap.size w0 w) (hg : w0.heap.size ≤ g) (o : Only g w w') : TabSets w' := ht.keep (b0.trans (o.1.mono hg))
theorem cf_none {q r : Int} (h : setB q = true) (hc : codeS (setSpans q) r = 0) : cfV q r = .tuple #[.int .i64 0, .int .i64 12] := cfV_bad q r 12 (by simp [cfC, h, hc]) (by decide)
theorem cf_some {q r : Int} (h : setB q = true) (hc : 0 < codeS (setSpans q) r) : cfV q r = .tuple #[.int .i64 (codeS (setSpans q) r), .int .i64 0] := cfV_ok q r (by simp [cfC, h]; omega)
theorem set_mem {n : Int} {k j : Nat} (hj : j < (prSets n k).length) (_hk : k < 4) : setB ((prSets n k).getD j 0) = true := by
  have hm : (prSets n k).getD j 0 ∈ prSets n k := by simp [List.getD, List.getElem?_eq_getElem hj]
  revert hm
  generalize (prSets n k).getD j 0 = q
  unfold prSets prSet0 prSet1 prSet2
  repeat' split
  all_goals (intro hm; first | (cases hm; done) | (simp only [List.mem_cons, List.not_mem_nil, or_false] at hm; rcases hm with rfl | rfl | rfl | rfl | rfl | rfl <;> decide))
theorem codeS_pos (q r : Int) : 0 ≤ codeS (setSpans q) r := by
  have : ∀ sp : List Sp, (∀ s ∈ sp, smallSp s) → 0 ≤ codeS sp r := by
    intro sp
    induction sp with
    | nil => intro _; simp [codeS]
    | cons s t ih =>
      intro h
      unfold codeS
      split
      · next hb =>
        have := inB_true hb
        have ⟨⟨a1, a2⟩, ⟨a3, a4⟩, a5, a6⟩ := h s (by simp)
        omega
      · exact ih fun x hx => h x (List.mem_cons_of_mem _ hx)
  exact this _ (set_small q)

set_option maxHeartbeats 1000000 in
theorem impl_canEncode (n r : Int) (g C : Nat) (w0 w : World) (h : GuOK w g n C) (hg : g < C) (hC : C ≤ w.heap.size) (ht : TabSets w0) (b0 : Below w0.heap.size w0 w) (hg0 : w0.heap.size ≤ g) (hn : proB n = true) (hr : okB r = true) :
    Calls Tryd.prog 65 #[.pointer (some ⟨g, 0, none⟩), .int .i64 r] w (GaDone (canB n r) g n C w) := by
  have HO := Lib.hid (fun w => impl_isOwnByte r w)
  cases ho : ownI r
  · rw [ho] at HO
    have HS := Lib.hid (fun (k : Nat) w h hC (hk : k < 4) => impl_setsFor n k g C w h hg hC hn (by omega) (by omega))
    have HY := Lib.hid (fun (k : Nat) (hk : k < 4) (h : canG k r (prSets n k) = true) => canI_yes (n := n) hr ho hk h)
    have HNo := Lib.hid (fun (h : ∀ g : Nat, g < 4 → canG g r (prSets n g) = false) => canI_no (n := n) hr ho h)
    have hr1 : r ≤ 9223372036854775807 := by have := okB_true hr; omega
    have HF := Lib.hid (fun q w ht => impl_CodeFor q r w ht hr1)
    have HT := Lib.hid (fun w' (o : Only g w w') => ht.since b0 hg0 o)
    have hgl : g < w.heap.size := by omega
    have HG := Lib.hid h
    clear ho hn hr hr1 ht b0 h
    go_enter Tryd.func65, Tryd.ntmps65
    go_wp2_with fail
    refine (HO.out _).mono ?_
    rintro e w1 ⟨rfl, b1⟩
    have HG1 := Lib.hid (HG.out.keep b1)
    have O1 := Lib.hid (only_below hgl b1)
    have hs1 := b1.size
    clear b1 HG
    go_wp2
    go_loopw [5, 12] (fun _ i wr => ∃ k : Nat, k ≤ 4 ∧ i = .int .i64 k ∧ Hid (∀ g : Nat, g < k → canG g r (prSets n g) = false) ∧ Hid (GuOK wr g n C) ∧ Hid (Only g w wr) ∧ w.heap.size ≤ wr.heap.size) (fun _ i _ => 4 - (intOf i).toNat)
    case atStart => exact ⟨0, by omega, rfl, Lib.hid (fun g hg => absurd hg (by omega)), HG1, O1, hs1⟩
    case round =>
      clear HG1 O1 hs1
      obtain ⟨k, hk, rfl, HC, HGr, HOr, hsr⟩ := hrel
      by_cases hk4 : k < 4
      · have hk4' : (k : Int) < 4 := by omega
        have hk0' : (0 : Int) ≤ (k : Int) := by omega
        go_wp2_with fail
        refine (HS.out k _ HGr.out (by omega) hk4).mono ?_
        rintro e w2 ⟨s, l, c, mb, rfl, hG, hP, hOw, o2⟩
        have HG2 : Hid (GuOK w2 g n C) := Lib.hid ⟨_, hG, .inr ⟨mb, rfl, hP⟩⟩
        have HO2 := Lib.hid (HOr.out.trans o2)
        have hs2 : w.heap.size ≤ w2.heap.size := Nat.le_trans hsr o2.1.size
        have HI := Lib.hid hOw.ints
        obtain ⟨a', c', hv⟩ := hOw.ints.form
        injection hv with e1 e2 e3
        subst e2
        have hfew := prSets_few n k
        have HSet := Lib.hid (fun j hj => set_mem (n := n) (k := k) (j := j) hj hk4)
        clear hG hP hOw o2 HGr HOr hsr e1 e3 a' c' mb
        have HYk := Lib.hid (fun h => HY.out k hk4 h)
        have HNx : Hid (canG k r (prSets n k) = false → ∀ g : Nat, g < k + 1 → canG g r (prSets n g) = false) := Lib.hid (fun h g hg => by
          by_cases hgk : g = k
          · subst hgk; exact h
          · exact HC.out g (by omega))
        have HCk : Hid (∀ j c, j < (prSets n k).length → canG k r ((prSets n k).take j) = false → codeS (setSpans ((prSets n k).getD j 0)) r = c → canG k r ((prSets n k).take (j + 1)) = (decide (0 < c) && (decide ((k : Int) ≠ 2) || decide (c ≠ 127)))) := Lib.hid (fun j c h1 h3 h2 => canG_take k r _ j h1 h3 c h2)
        generalize prSets n k = zs at *
        go_wp2
        go_loopw [7, 8, 9, 19] (fun _ _ _ i wq => ∃ j : Nat, j ≤ zs.length ∧ i = .int .i64 j ∧ Hid (canG k r (zs.take j) = false) ∧ Hid (GuOK wq g n C) ∧ Hid (Only g w wq) ∧ Below w2.heap.size w2 wq) (fun _ _ _ i _ => zs.length - (intOf i).toNat)
        case atStart => exact ⟨0, by omega, rfl, Lib.hid rfl, HG2, HO2, Below.refl _ _⟩
        case round =>
          clear HG2 HO2
          obtain ⟨j, hj, rfl, HJ, HGq, HOq, hq⟩ := hrel
          by_cases hjl : j < zs.length
          · have hjl' : (j : Int) < (zs.length : Int) := by omega
            have hj0' : (0 : Int) ≤ (j : Int) := by omega
            obtain ⟨b, off, rfl, c1⟩ := (HI.out.keep hq).pick j hjl
            have hset := HSet.out j hjl
            have HCj := Lib.hid (fun c => HCk.out j c hjl HJ.out)
            generalize zs.getD j 0 = z at *
            have hz64 := inB_true hset
            have hcs := codeS_pos z r
            go_wp2_with fail
            refine (HF.out z _ (HT.out _ HOq.out)).mono ?_
            rintro e w3 ⟨rfl, b3⟩
            have hgl3 : g < wr.heap.size := Nat.lt_of_lt_of_le hgl HOq.out.1.size
            have HG3 := Lib.hid (HGq.out.keep b3)
            have HO3 := Lib.hid (HOq.out.trans (only_below hgl3 b3))
            have hq3 : Below w2.heap.size w2 w3 := hq.trans (b3.mono hq.size)
            have HCc := Lib.hid (HCj.out _ rfl)
            clear c1 hq b3 HCj HGq HOq
            by_cases hc : codeS (setSpans z) r = 0
            · rw [cf_none hset hc]
              rw [hc] at HCc
              have HN : Hid (canG k r (zs.take (j + 1)) = false) := Lib.hid (by rw [HCc.out]; simp)
              clear hc hcs HCc hset
              go_wp2
              go_roundw
              case rel => exact ⟨j + 1, by omega, by go_num, HN, HG3, HO3, hq3⟩
              case measure => simp [intOf]; omega
            · rw [cf_some hset (by omega)]
              generalize codeS (setSpans z) r = c at *
              by_cases hk2 : k = 2
              · have ek : ((k : Int) != 2) = false := by simp [hk2]
                by_cases hc7 : c = 127
                · have ecc : (c != 127) = false := by simp [hc7]
                  have HN : Hid (canG k r (zs.take (j + 1)) = false) := Lib.hid (by rw [HCc.out]; simp [hk2, hc7])
                  clear hc hk2 hc7 hcs HCc hset
                  go_wp2
                  go_roundw
                  case rel => exact ⟨j + 1, by omega, by go_num, HN, HG3, HO3, hq3⟩
                  case measure => simp [intOf]; omega
                · have ecc : (c != 127) = true := by simp [hc7]
                  have HN : Hid (canB n r = true) := Lib.hid (HYk.out (canG_some (k := j + 1) (by rw [HCc.out]; simp [hc7]; omega)))
                  clear hc hk2 hc7 hcs HCc hset
                  go_wp2
                  go_ret
                  exact ⟨ret_bool HN.out.symm, HG3.out, HO3.out⟩
              · have ek : ((k : Int) != 2) = true := by simp; omega
                have HN : Hid (canB n r = true) := Lib.hid (HYk.out (canG_some (k := j + 1) (by rw [HCc.out]; simp; omega)))
                clear hc hk2 hcs HCc hset
                go_wp2
                go_ret
                exact ⟨ret_bool HN.out.symm, HG3.out, HO3.out⟩
          · have HN : Hid (∀ g : Nat, g < k + 1 → canG g r (prSets n g) = false) := Lib.hid (HNx.out (by
              have := HJ.out
              rw [List.take_of_length_le (by omega)] at this
              exact this))
            have hsq : w.heap.size ≤ wr.heap.size := Nat.le_trans hs2 hq.size
            go_wp2
            go_roundw
            case rel => exact ⟨k + 1, by omega, by go_num, HN, HGq, HOq, hsq⟩
            case measure => simp [intOf]; omega
      · have HE : Hid (canB n r = false) := Lib.hid (HNo.out fun g hg => HC.out g (by omega))
        go_wp2
        go_ret
        exact ⟨ret_bool HE.out.symm, HGr.out, HOr.out⟩
  · rw [ho] at HO
    have HE := Lib.hid (canB_own (n := n) hr ho)
    have HG := Lib.hid h
    have hgl : g < w.heap.size := by omega
    clear ho hn hr ht b0 h
    go_enter Tryd.func65, Tryd.ntmps65
    go_wp2_with fail
    refine (HO.out _).mono ?_
    rintro e w1 ⟨rfl, b1⟩
    go_wp2
    go_ret
    exact ⟨ret_bool HE.out.symm, HG.out.keep b1, only_below hgl b1⟩

theorem ce_bad {n r c : Int} (h : ceC n r = c) (h0 : c ≠ 0) : (.tuple #[.bool (ceB n r), .int .i64 (ceC n r)] : Value) = .tuple #[.bool false, .int .i64 c] := by
  rw [h, ceB, h]
  simp [h0]
set_option maxHeartbeats 400000 in
theorem impl_CanEncode (n r : Int) (w : World) (ht : TabSets w) : Calls Tryd.prog 25 #[.int .i64 n, .int .i64 r] w fun e w' => e = .returned (.tuple #[.bool (ceB n r), .int .i64 (ceC n r)]) ∧ Below w.heap.size w w' := by
  cases hn : proB n
  · have HE := Lib.hid (ce_bad (n := n) (r := r) (c := 5) (by simp [ceC, hn]) (by decide))
    go_enter Tryd.func25, Tryd.ntmps25
    go_wp2_with fail
    refine (impl_isProfile n _).mono ?_
    rintro e w1 ⟨rfl, rfl⟩
    rw [hn]
    go_wp2
    go_ret2
    exact ⟨ret_val HE.out.symm, Below.refl _ _⟩
  cases hr : okB r
  · have HE := Lib.hid (ce_bad (n := n) (r := r) (c := 4) (by simp [ceC, hn, hr]) (by decide))
    go_enter Tryd.func25, Tryd.ntmps25
    go_wp2_with fail
    refine (impl_isProfile n _).mono ?_
    rintro e w1 ⟨rfl, rfl⟩
    rw [hn]
    go_wp2_with fail
    refine (impl_RuneOK r _).mono ?_
    rintro e w2 ⟨rfl, rfl⟩
    rw [hr]
    go_wp2
    go_ret2
    exact ⟨ret_val HE.out.symm, Below.refl _ _⟩
  · have HE : Hid ((.tuple #[.bool (ceB n r), .int .i64 (ceC n r)] : Value) = .tuple #[.bool (canB n r), .int .i64 0]) := Lib.hid (by simp [ceB, ceC, hn, hr])
    have HCan := Lib.hid (fun g C w' h hg hC b0 hg0 => impl_canEncode n r g C w w' h hg hC ht b0 hg0 hn hr)
    have HGu := Lib.hid (fun w' (b : Below w.heap.size w w') => impl_guideOf n w' (ht.keep b) hn)
    unfold GaDone at HCan
    have HN := Lib.hid hn
    have HR := Lib.hid hr
    clear hn hr ht
    generalize canB n r = q at *
    go_enter Tryd.func25, Tryd.ntmps25
    go_wp2_with fail
    refine (impl_isProfile n _).mono ?_
    rintro e w1 ⟨rfl, rfl⟩
    rw [HN.out]
    go_wp2_with fail
    refine (impl_RuneOK r _).mono ?_
    rintro e w2 ⟨rfl, rfl⟩
    rw [HR.out]
    go_wp2_with fail
    refine (HGu.out _ (Below.refl _ _)).mono ?_
    rintro e w3 ⟨rfl, b3⟩
    have hs3 := b3.size
    have B4 := Lib.hid (b3.trans ((below_one w3 (.cells #[.int .i64 n, .string (prName n), .string (prHead n), .slice none 0 0, .bool (prRight n), .bool (prShifts n), .bool (prSingle n), .bool (prReset n), .bool (prClear n), .map none] 90)).mono b3.size))
    have HG4 : Hid (GuOK (w3.alloc (.cells #[.int .i64 n, .string (prName n), .string (prHead n), .slice none 0 0, .bool (prRight n), .bool (prShifts n), .bool (prSingle n), .bool (prReset n), .bool (prClear n), .map none] 90)) w3.heap.size n (w3.heap.size + 1)) := Lib.hid ⟨_, GuAt.new w3 n (.map none), .inl rfl⟩
    clear b3
    unfold guV
    go_wp2_with fail
    refine (HCan.out _ _ _ HG4.out (by omega) (by simp) B4.out (by omega)).mono ?_
    rintro e w5 ⟨rfl, _, o5⟩
    have B5 := B4.out.trans (o5.1.mono (by omega))
    go_wp2
    go_ret2
    exact ⟨ret_val HE.out.symm, B5⟩

end Go.Proofs.YtibadnfagoehmaaDoor
