/- The program's RuneFor, CodeFor, SizeOf over its own table. -/
import Derived.Test.YtbamjhldebobhaaDoorSetsT
namespace Go.Proofs.YtbamjhldebobhaaDoor
open Go.RowKit

/-- The place of n among count numbers from first on. -/
def placeV (first count n : Int) : Value := if inB n first (first + count - 1) = true then .tuple #[.int .i64 (n - first), .bool true] else .tuple #[.int .i64 0, .bool false]
theorem impl_placeIn (first count n : Int) (w : World) (h1 : 0 ≤ first) (h2 : first ≤ 2000000) (_h3 : 0 ≤ count) (_h4 : count ≤ 2000000) (hu : n ≤ 9223372036854775807) :
    Calls Tryd.prog 84 #[.int .i64 first, .int .i64 count, .int .i64 n] w fun e w' => e = .returned (placeV first count n) ∧ w = w' := by
  by_cases a1 : n < first
  · have HE : Hid (placeV first count n = .tuple #[.int .i64 0, .bool false]) := Lib.hid (by rw [placeV, inB_false_of (by omega)]; simp)
    go_enter Tryd.func84, Tryd.ntmps84
    go_wp2
    go_ret2
    exact ⟨ret_val HE.out.symm, rfl⟩
  · have u1 : IntKind.i64.wrap (n - first) = n - first := IntWalk.i64_in _ (by omega)
    by_cases a2 : count ≤ n - first
    · have HE : Hid (placeV first count n = .tuple #[.int .i64 0, .bool false]) := Lib.hid (by rw [placeV, inB_false_of (by omega)]; simp)
      go_enter Tryd.func84, Tryd.ntmps84
      go_wp2
      go_ret2
      exact ⟨ret_val HE.out.symm, rfl⟩
    · have HE : Hid (placeV first count n = .tuple #[.int .i64 (n - first), .bool true]) := Lib.hid (by
        have : inB n first (first + count - 1) = true := by simp [inB]; omega
        rw [placeV, this]; simp)
      go_enter Tryd.func84, Tryd.ntmps84
      go_wp2
      go_ret2
      exact ⟨ret_val HE.out.symm, rfl⟩

theorem SpAt.open {w : World} {v : Value} {n : Int} (h : SpAt w v (setSpans n)) : ∃ g off c, v = .slice (some ⟨g, off, none⟩) (setSpans n).length c ∧ ∀ i (h : i < (setSpans n).length),
    w.cell? ⟨g, off + i * 3, none⟩ = some (.int .i64 ((setSpans n)[i]).1) ∧ w.cell? ⟨g, off + i * 3 + 1, none⟩ = some (.int .i64 ((setSpans n)[i]).2.1) ∧ w.cell? ⟨g, off + i * 3 + 2, none⟩ = some (.int .i64 ((setSpans n)[i]).2.2) := by
  rcases h with ⟨h0, _⟩ | h
  · have := (set_few n).1
    rw [h0] at this
    simp at this
  · exact h

/-- Each span begins above nought. -/
theorem set_pos (n : Int) : ∀ s ∈ setSpans n, 0 < s.1 := by
  unfold setSpans
  repeat' split
  all_goals (intro s hs; simp only [List.mem_cons, List.not_mem_nil, or_false] at hs; rcases hs with rfl | rfl | rfl | rfl <;> simp)

set_option maxHeartbeats 1000000 in
set_option maxRecDepth 100000 in
theorem impl_RuneFor (n code : Int) (w : World) (ht : TabSets w) (hl : -9223372036854775808 ≤ code) (hu : code ≤ 9223372036854775807) : Calls Tryd.prog 74 #[.int .i64 n, .int .i64 code] w fun e w' => e = .returned (rfV n code) ∧ Below w.heap.size w w' := by
  cases hn : setB n
  · have HE := Lib.hid (rfV_bad n code 5 (by simp [rfC, hn]) (by decide))
    clear ht
    go_enter Tryd.func74, Tryd.ntmps74
    go_wp2_with fail
    refine (impl_isSet n w).mono ?_
    rintro e w1 ⟨rfl, rfl⟩
    rw [hn]
    go_wp2
    go_ret2
    exact ⟨ret_val HE.out.symm, Below.refl _ _⟩
  · have HO : Hid (codeOKB n code = isCodeB (setKind n) code) := Lib.hid (by simp [codeOKB, isCodeB, hn])
    obtain ⟨k, rfl, k1, k8⟩ := setB_nat hn
    obtain ⟨_, c1, _, v, c3, hs⟩ := ht k k1 k8
    have hk := setKind_cases (k : Int)
    clear ht
    have u1 : (0 : Int) ≤ (k : Int) := by omega
    have u2 : (k : Int) < 9 := by omega
    generalize hkd : setKind (k : Int) = kd at *
    cases hc : isCodeB kd code
    · have HE := Lib.hid (rfV_bad (k : Int) code 4 (by simp [rfC, hn, HO.out, hc]) (by decide))
      clear hkd hs c3
      go_enter Tryd.func74, Tryd.ntmps74
      go_wp2_with fail
      refine (impl_isSet (k : Int) w).mono ?_
      rintro e w1 ⟨rfl, rfl⟩
      rw [hn]
      go_wp2_with fail
      refine (impl_isCode kd code w hk hl hu).mono ?_
      rintro e w1 ⟨rfl, rfl⟩
      rw [hc]
      go_wp2
      go_ret2
      exact ⟨ret_val HE.out.symm, Below.refl _ _⟩
    · have HB : Hid (runeS (setSpans (k : Int)) code < 0 → rfV (k : Int) code = .tuple #[.int .i64 0, .int .i64 12]) := Lib.hid (fun h => rfV_bad (k : Int) code 12 (by simp [rfC, hn, HO.out, hc, h]) (by decide))
      have HG : Hid (¬ runeS (setSpans (k : Int)) code < 0 → rfV (k : Int) code = .tuple #[.int .i64 (runeS (setSpans (k : Int)) code), .int .i64 0]) := Lib.hid (fun h => rfV_ok (k : Int) code (by simp [rfC, hn, HO.out, hc, h]))
      obtain ⟨g, off, c, rfl, hcs⟩ := hs.open
      have HC := Lib.hid hcs
      have HS := Lib.hid (set_small (k : Int))
      have f2 := (set_few (k : Int)).2
      clear hkd hs hcs
      generalize setSpans (k : Int) = sp at *
      go_enter Tryd.func74, Tryd.ntmps74
      go_wp2_with fail
      refine (impl_isSet (k : Int) w).mono ?_
      rintro e w1 ⟨rfl, rfl⟩
      rw [hn]
      go_wp2_with fail
      refine (impl_isCode kd code w hk hl hu).mono ?_
      rintro e w1 ⟨rfl, rfl⟩
      rw [hc]
      go_wp2
      go_loopw [25] (fun i wr => ∃ j : Nat, j ≤ sp.length ∧ i = .int .i64 j ∧ Hid (runeS sp code = runeS (sp.drop j) code) ∧ Below w.heap.size w wr) (fun i _ => sp.length - (intOf i).toNat)
      case atStart => exact ⟨0, Nat.zero_le _, rfl, Lib.hid rfl, Below.refl _ _⟩
      case round =>
        obtain ⟨j, hj, rfl, HR, b⟩ := hrel
        by_cases hlt : j < sp.length
        · have ⟨x0, x1, x2⟩ := HC.out j hlt
          have hsm := HS.out _ (List.getElem_mem hlt)
          have HD := Lib.hid (runeS_drop sp code j hlt)
          have y0 := (b.cell (World.block_lt_of_cell? w _ x0)).trans x0
          have y1 := (b.cell (World.block_lt_of_cell? w _ x1)).trans x1
          have y2 := (b.cell (World.block_lt_of_cell? w _ x2)).trans x2
          generalize sp[j] = s at *
          obtain ⟨sc, sr, sn⟩ := s
          obtain ⟨⟨a1, a2⟩, ⟨a3, a4⟩, a5, a6⟩ := hsm
          simp only at a1 a2 a3 a4 a5 a6 y0 y1 y2
          clear x0 x1 x2
          have v1 : (0 : Int) ≤ (j : Int) := by omega
          have v2 : (j : Int) < (sp.length : Int) := by omega
          go_wp2_with fail
          refine (impl_placeIn sc sn code _ a1 a2 a5 a6 hu).mono ?_
          rintro e w2 ⟨rfl, rfl⟩
          unfold placeV
          have B := b.alloc b.size (.cells #[.int .i64 sc, .int .i64 sr, .int .i64 sn] 90)
          cases hin : inB code sc (sc + sn - 1)
          · have HX : Hid (runeS sp code = runeS (sp.drop (j + 1)) code) := Lib.hid (by rw [HR.out, HD.out, hin]; simp)
            go_wp2
            go_roundw
            case rel => exact ⟨j + 1, by omega, by go_num, HX, B⟩
            case measure => simp [intOf]; omega
          · have ⟨i1, i2⟩ := inB_true hin
            have v5 : IntKind.i64.wrap (sr + (code - sc)) = sr + (code - sc) := IntWalk.i64_in _ (by omega)
            have HX : Hid (runeS sp code = sr + (code - sc)) := Lib.hid (by rw [HR.out, HD.out, hin]; simp; omega)
            go_wp2
            go_ret2
            refine ⟨ret_val ?_, B⟩
            rw [HG.out (by rw [HX.out]; omega), HX.out]
            rfl
        · go_wp2
          go_ret2
          refine ⟨ret_val ?_, b⟩
          have hjn : sp.length ≤ j := by omega
          rw [HB.out (by rw [HR.out, List.drop_eq_nil_of_le hjn, runeS]; decide)]
          rfl

end Go.Proofs.YtbamjhldebobhaaDoor
