/- The walk of 'FnSets': the law returns true at every argument, where the package's table reads as its text lays it. -/
import Derived.Test.YtlakpddabkmpoaaDoorFnSetsM
import Derived.Test.YtlakpddabkmpoaaDoorSetsK
import Derived.Test.YtlakpddabkmpoaaDoorSetVar
import Derived.Test.YtlakpddabkmpoaaDoorSetsLaid
import Derived.Test.YtlakpddabkmpoaaDoorRowsU
import Derived.Test.YtlakpddabkmpoaaDoorDrawG
import Derived.Test.YtlakpddabkmpoaaDoorLawsAt
import Derived.Test.YtlakpddabkmpoaaDoorLawsSame
namespace Go.Proofs.YtlakpddabkmpoaaDoor.fnSets
open Go.RowKit

set_option maxHeartbeats 2000000 in
set_option maxRecDepth 100000 in
theorem walk (a : Option Addr) (len cap : Nat) (zs : List Int) (a' : Option Addr) (len' cap' : Nat) (zs' : List Int) (w : World)
    (hr : IsRow .u8 w a len cap zs) (hr' : IsRow .u8 w a' len' cap' zs') (ht : TabSets w) :
    Calls Tryd.prog 3 #[.slice a len cap, .slice a' len' cap'] w fun e w' => e = .returned (.bool true) ∧ Below w.heap.size w w' := by
  have HT := Lib.hid ht
  have hi := hr.ints
  have ⟨hl, hm⟩ := hr.length
  have hi' := hr'.ints
  have ⟨hl', hm'⟩ := hr'.length
  have hb := hr.bytes
  have hb' := hr'.bytes
  clear ht hr hr'
  unfold maxLen at hm hm'
  generalize zs.take len = ys at *
  generalize zs'.take len' = ys' at *
  have HI := Lib.hid hi
  have HI' := Lib.hid hi'
  have HB := Lib.hid hb
  have HB' := Lib.hid hb'
  have HL := Lib.hid hl
  have HL' := Lib.hid hl'
  clear hi hi' hb hb' hl hl'
  by_cases h1 : 1048576 < len
  · go_enter Tryd.func3, Tryd.ntmps3
    go_wp2
    go_ret
    exact ⟨rfl, Below.refl _ _⟩
  by_cases h2 : 1048576 < len'
  · go_enter Tryd.func3, Tryd.ntmps3
    go_wp2
    go_ret
    exact ⟨rfl, Below.refl _ _⟩
  go_enter Tryd.func3, Tryd.ntmps3
  go_wp2_with fail
  refine (laws_at _ ys' 0 8 w HI'.out HB'.out (by have := HL'.out; omega) (by omega) (by omega)).mono ?_
  rintro e w0 ⟨r, q, rfl, r0, r1, rfl⟩
  have B0 : Below w.heap.size w (w.drewN q) := below_drewN (Below.refl _ _) q
  generalize w.drewN q = w0 at *
  have u0 : IntKind.i64.wrap (1 + r) = 1 + r := IntWalk.i64_in _ (by omega)
  obtain ⟨n, hn⟩ : ∃ n, n = 1 + r := ⟨_, rfl⟩
  have n1 : 1 ≤ n := by omega
  have n8 : n ≤ 8 := by omega
  rw [← hn] at u0
  have hset : setB n = true := setB_of n1 n8
  go_wp2_with fail
  rw [← hn]
  clear hn r0 r1 u0
  refine (impl_SetOf n w0 (HT.out.keep B0)).mono ?_
  rintro e w1 ⟨⟨hbad, _⟩ | ⟨_, v1, rfl, o1⟩, b1⟩
  · rw [hset] at hbad; cases hbad
  obtain ⟨xg, xo, xc, rfl, hx⟩ := o1.spAt.open
  have hX : SpAt w1 (.slice (some ⟨xg, xo, none⟩) (setSpans n).length xc) (setSpans n) := .inr ⟨xg, xo, xc, rfl, hx⟩
  clear hx o1
  unfold setVal
  have V1 := VarIs.new w1 (setName n) (setKind n) (setFinal n) (.slice (some ⟨xg, xo, none⟩) (setSpans n).length xc)
  have x1 := (Below.refl w1.heap.size w1).alloc (Nat.le_refl _) (.cells #[.string (setName n), .int .i64 (setKind n), .int .i64 (setFinal n), .slice (some ⟨xg, xo, none⟩) (setSpans n).length xc] 26)
  have B1 : Below w.heap.size w (w1.alloc (.cells #[.string (setName n), .int .i64 (setKind n), .int .i64 (setFinal n), .slice (some ⟨xg, xo, none⟩) (setSpans n).length xc] 26)) := (B0.trans (b1.mono B0.size)).trans (x1.mono (by have := b1.size; have := B0.size; omega))
  have hX1 := hX.keep x1
  clear hX x1 b1 B0
  go_wp2_with fail
  generalize w1.alloc (.cells #[.string (setName n), .int .i64 (setKind n), .int .i64 (setFinal n), .slice (some ⟨xg, xo, none⟩) (setSpans n).length xc] 26) = W1 at *
  refine (spec_SetOf n W1).mono ?_
  rintro e w2 ⟨⟨hbad, _⟩ | ⟨_, yg, rfl, hyg, hyb⟩, b2⟩
  · rw [hset] at hbad; cases hbad
  have hY : SpAt w2 (.slice (some ⟨yg, 0, none⟩) (setSpans n).length (setSpans n).length) (setSpans n) := .inr ⟨yg, 0, _, rfl, fun i hi => by simpa using SetDone.cells hyb i hi⟩
  unfold setV
  have V2 := VarIs.new w2 (setName n) (setKind n) (setFinal n) (.slice (some ⟨yg, 0, none⟩) (setSpans n).length (setSpans n).length)
  have x2 := (Below.refl w2.heap.size w2).alloc (Nat.le_refl _) (.cells #[.string (setName n), .int .i64 (setKind n), .int .i64 (setFinal n), .slice (some ⟨yg, 0, none⟩) (setSpans n).length (setSpans n).length] 26)
  have B2 : Below w.heap.size w (w2.alloc (.cells #[.string (setName n), .int .i64 (setKind n), .int .i64 (setFinal n), .slice (some ⟨yg, 0, none⟩) (setSpans n).length (setSpans n).length] 26)) := (B1.trans (b2.mono B1.size)).trans (x2.mono (by have := b2.size; have := B1.size; omega))
  have HX := Lib.hid ((hX1.keep b2).keep x2)
  have HY := Lib.hid (hY.keep x2)
  have HV1 := Lib.hid ((V1.keep b2).keep x2)
  have HV2 := Lib.hid V2
  clear hyg hyb hX1 hY V1 V2 x2 b2 B1
  go_wp2_with fail
  generalize w2.alloc (.cells #[.string (setName n), .int .i64 (setKind n), .int .i64 (setFinal n), .slice (some ⟨yg, 0, none⟩) (setSpans n).length (setSpans n).length] 26) = W2 at *
  refine (impl_SetNamed (setName n) W2 (name_small n)).mono ?_
  rintro e w3 ⟨rfl, b3⟩
  rw [sn_good n n1 n8]
  obtain ⟨c0, c1, c2, c3⟩ := (HV2.out.keep b3).cells
  obtain ⟨d0, d1, d2, d3⟩ := (HV1.out.keep b3).cells
  go_wp2_with fail
  refine (impl_FindSet (setKind n) (setFinal n) w3 (HT.out.keep (B2.trans (b3.mono B2.size)))).mono ?_
  rintro e w4 ⟨rfl, rfl⟩
  rw [fs_good n n1 n8]
  go_wp2_with fail
  clear c0 c1 c2 c3 d0 d1 d2 d3
  refine (impl_SizeOf n w3 (HT.out.keep (B2.trans (b3.mono B2.size)))).mono ?_
  rintro e w5 ⟨rfl, b5⟩
  rw [so_good n n1 n8]
  have C5 : Below W2.heap.size W2 w5 := b3.trans (b5.mono b3.size)
  clear b3 b5
  go_wp2_with fail
  refine (spec_SizeOf n w5).mono ?_
  rintro e w6 ⟨rfl, b6⟩
  rw [so_good n n1 n8]
  have C6 : Below W2.heap.size W2 w6 := C5.trans (b6.mono C5.size)
  clear C5 b6
  have f4 := (set_few n).2
  have HS := Lib.hid (set_small n)
  have HG := Lib.hid (fun s hs j hj => rf_good n n1 n8 s hs j hj)
  have HF := Lib.hid (fun s hs j hj => cf_good n n1 n8 s hs j hj)
  have HK := Lib.hid (fun s hs j hj => (good_at n n1 n8 s hs j hj).2.1)
  have hz := sizeS_small (setSpans n) (set_small n)
  generalize setSpans n = sp at *
  have SN := span_neq
  have SG := span_guard
  go_wp2
  go_loopw [18, 19] (fun t i wr => ∃ k : Nat, k ≤ sp.length ∧ i = .int .i64 k ∧ t = .int .i64 (sizeS (sp.take k)) ∧ Below W2.heap.size W2 wr) (fun _ i _ => sp.length - (intOf i).toNat)
  case atStart => exact ⟨0, Nat.zero_le _, rfl, rfl, C6⟩
  case round =>
    clear C6
    obtain ⟨k, hk, rfl, rfl, C⟩ := hrel
    by_cases hlt : k < sp.length
    · obtain ⟨_, _, _, c3⟩ := (HV2.out.keep C).cells
      have ⟨y0, y1, y2⟩ := (HY.out.keep C).at k hlt
      have ⟨z0, z1, z2⟩ := (HX.out.keep C).at k hlt
      obtain ⟨_, _, _, d3⟩ := (HV1.out.keep C).cells
      have hmem := List.getElem_mem hlt
      have ⟨⟨a1, a2⟩, ⟨a3, a4⟩, a5, a6⟩ := HS.out _ hmem
      have HRF := Lib.hid (HG.out _ hmem)
      have HCF := Lib.hid (HF.out _ hmem)
      have HKF := Lib.hid (HK.out _ hmem)
      have HD := Lib.hid (sizeS_take sp k hlt)
      have ⟨t0, t1⟩ := sizeS_small (sp.take k) (fun x hx => HS.out x (List.mem_of_mem_take hx))
      have t2 : (sp.take k).length ≤ 4 := by simp; omega
      clear hmem
      generalize sp[k] = s at *
      obtain ⟨sc, sr, sn⟩ := s
      simp only at y0 y1 y2 z0 z1 z2 a1 a2 a3 a4 a5 a6
      simp only [Nat.zero_add] at y0 y1 y2
      have v1 : (0 : Int) ≤ (k : Int) := by omega
      have v2 : (k : Int) < (sp.length : Int) := by omega
      generalize hzz : sizeS (sp.take k) = z at *
      have HZ := Lib.hid hzz
      clear hzz
      have u3 : IntKind.i64.wrap (z + sn) = z + sn := IntWalk.i64_in _ (by omega)
      have V3 := heap_alloc_new wr (.cells #[.int .i64 sc, .int .i64 sr, .int .i64 sn] 34)
      have x3 := (Below.refl wr.heap.size wr).alloc (Nat.le_refl _) (.cells #[.int .i64 sc, .int .i64 sr, .int .i64 sn] 34)
      have e0 := (x3.cell (World.block_lt_of_cell? wr _ z0)).trans z0
      have e1 := (x3.cell (World.block_lt_of_cell? wr _ z1)).trans z1
      have e2 := (x3.cell (World.block_lt_of_cell? wr _ z2)).trans z2
      have e3 := (x3.cell (World.block_lt_of_cell? wr _ d3)).trans d3
      have C3 : Below W2.heap.size W2 (wr.alloc (.cells #[.int .i64 sc, .int .i64 sr, .int .i64 sn] 34)) := C.trans (x3.mono C.size)
      have f0 : (wr.alloc (.cells #[.int .i64 sc, .int .i64 sr, .int .i64 sn] 34)).cell? ⟨wr.heap.size, 0, none⟩ = some (.int .i64 sc) := by rw [cell_of_row _ _ _ _ _ _ V3]; rfl
      have f1 : (wr.alloc (.cells #[.int .i64 sc, .int .i64 sr, .int .i64 sn] 34)).cell? ⟨wr.heap.size, 1, none⟩ = some (.int .i64 sr) := by rw [cell_of_row _ _ _ _ _ _ V3]; rfl
      have f2 : (wr.alloc (.cells #[.int .i64 sc, .int .i64 sr, .int .i64 sn] 34)).cell? ⟨wr.heap.size, 2, none⟩ = some (.int .i64 sn) := by rw [cell_of_row _ _ _ _ _ _ V3]; rfl
      clear x3 V3
      go_wp2
      clear y0 y1 y2 z0 z1 z2 c3 d3 C
      generalize hb3 : wr.heap.size = b3 at *
      generalize wr.alloc (.cells #[.int .i64 sc, .int .i64 sr, .int .i64 sn] 34) = W3 at *
      clear hb3
      go_quiet (fail)
      have C4 : Below W2.heap.size W2 (W3.drewN nq) := below_drewN C3 nq
      have g0 : (W3.drewN nq).cell? ⟨b3, 0, none⟩ = some (.int .i64 sc) := f0
      have g1 : (W3.drewN nq).cell? ⟨b3, 1, none⟩ = some (.int .i64 sr) := f1
      have g2 : (W3.drewN nq).cell? ⟨b3, 2, none⟩ = some (.int .i64 sn) := f2
      clear f0 f1 f2 e0 e1 e2 e3 C3
      generalize W3.drewN nq = W4 at *
      go_wp2
      have HG0 := Lib.hid g0
      have HG1 := Lib.hid g1
      have HG2 := Lib.hid g2
      clear g0 g1 g2
      go_loopw [21] (fun j wr2 => ∃ jj : Nat, jj ≤ 2000010 ∧ j = .int .i64 jj ∧ Below W4.heap.size W4 wr2) (fun j _ => 2000010 - (intOf j).toNat)
      case atStart => exact ⟨0, by omega, rfl, Below.refl _ _⟩
      case round =>
        obtain ⟨jj, hjj, rfl, D⟩ := hrel
        have g0 := (D.cell (World.block_lt_of_cell? W4 _ HG0.out)).trans HG0.out
        have g1 := (D.cell (World.block_lt_of_cell? W4 _ HG1.out)).trans HG1.out
        have g2 := (D.cell (World.block_lt_of_cell? W4 _ HG2.out)).trans HG2.out
        have E : Below W2.heap.size W2 wr := C4.trans (D.mono C4.size)
        by_cases hjn : (jj : Int) < sn
        · have hR := HRF.out jj hjn
          have hC := HCF.out jj hjn
          have hKb := HKF.out jj hjn
          have w1' : IntKind.i64.wrap (sc + (jj : Int)) = sc + jj := IntWalk.i64_in _ (by omega)
          have w2' : IntKind.i64.wrap (sr + (jj : Int)) = sr + jj := IntWalk.i64_in _ (by omega)
          go_wp2_with fail
          refine (impl_RuneFor n (sc + jj) wr (HT.out.keep (B2.trans (E.mono B2.size))) (by omega) (by omega)).mono ?_
          rintro e w7 ⟨rfl, b7⟩
          rw [hR]
          have D7 : Below W4.heap.size W4 w7 := D.trans (b7.mono D.size)
          have E7 : Below W2.heap.size W2 w7 := E.trans (b7.mono E.size)
          clear g0 g1 g2 D E b7
          have g0 := (D7.cell (World.block_lt_of_cell? W4 _ HG0.out)).trans HG0.out
          have g1 := (D7.cell (World.block_lt_of_cell? W4 _ HG1.out)).trans HG1.out
          have g2 := (D7.cell (World.block_lt_of_cell? W4 _ HG2.out)).trans HG2.out
          go_wp2_with fail
          refine (impl_CodeFor n (sr + jj) w7 (HT.out.keep (B2.trans (E7.mono B2.size))) (by omega)).mono ?_
          rintro e w8 ⟨rfl, b8⟩
          rw [hC]
          have D8 : Below W4.heap.size W4 w8 := D7.trans (b8.mono D7.size)
          have E8 : Below W2.heap.size W2 w8 := E7.trans (b8.mono E7.size)
          clear g0 g1 g2 D7 E7 b8
          have g0 := (D8.cell (World.block_lt_of_cell? W4 _ HG0.out)).trans HG0.out
          have g1 := (D8.cell (World.block_lt_of_cell? W4 _ HG1.out)).trans HG1.out
          have g2 := (D8.cell (World.block_lt_of_cell? W4 _ HG2.out)).trans HG2.out
          go_wp2_with fail
          refine (impl_CodeOK n (sc + jj) w8 (HT.out.keep (B2.trans (E8.mono B2.size))) (by omega) (by omega)).mono ?_
          rintro e w9 ⟨rfl, rfl⟩
          rw [hKb]
          clear g0 g1 g2 hR hC hKb
          go_wp2_with fail
          refine (laws_at _ ys' k 9 w8 (HI'.out.keep (B2.trans (E8.mono B2.size))) HB'.out (by have := HL'.out; omega) (by omega) (by omega)).mono ?_
          rintro e w10 ⟨r9, q9, rfl, r90, r91, rfl⟩
          have D9 : Below W4.heap.size W4 (w8.drewN q9) := below_drewN D8 q9
          clear D8 E8
          generalize w8.drewN q9 = w9 at *
          have w3' : IntKind.i64.wrap (1 + r9) = 1 + r9 := IntWalk.i64_in _ (by omega)
          have w4' : IntKind.i64.wrap ((jj : Int) + (1 + r9)) = (jj : Int) + (1 + r9) := IntWalk.i64_in _ (by omega)
          obtain ⟨rr, rfl⟩ := Int.eq_ofNat_of_zero_le r90
          go_wp2
          go_roundw
          case rel => exact ⟨jj + (1 + rr), by omega, by congr 1, D9⟩
          case measure => simp [intOf]; omega
        · go_wp2
          go_roundw
          case rel => exact ⟨k + 1, by omega, by go_num, by rw [HD.out], E⟩
          case measure => simp [intOf]; omega
    · have hkn : k = sp.length := by omega
      subst hkn
      rw [List.take_of_length_le (Nat.le_refl _)]
      obtain ⟨_, _, _, c3⟩ := (HV2.out.keep C).cells
      go_wp2_with fail
      clear c3
      refine (spec_RuneDrawn _ ys wr (HI.out.keep (B2.trans (C.mono B2.size))) HB.out (by have := HL.out; omega)).mono ?_
      rintro e w7 ⟨⟨rn, rfl, hok⟩, b7⟩
      have C7 : Below W2.heap.size W2 w7 := C.trans (b7.mono C.size)
      have hrn : rn ≤ 1114111 := by
        simp [okB, inB] at hok
        omega
      clear hok b7 C
      go_wp2_with fail
      refine (impl_SetsFor rn w7 (HT.out.keep (B2.trans (C7.mono B2.size))) (by omega)).mono ?_
      rintro e w8 ⟨v8, rfl, o8, b8⟩
      have C8 : Below W2.heap.size W2 w8 := C7.trans (b8.mono C7.size)
      clear b8 C7
      go_wp2_with fail
      refine (spec_SetsFor rn w8).mono ?_
      rintro e w9 ⟨v9, rfl, o9, b9⟩
      have o8b := o8.all b9
      have C9 : Below W2.heap.size W2 w9 := C8.trans (b9.mono C8.size)
      have hl8 := setsZ_length rn 8
      clear o8 b9 C8
      go_wp2_with fail
      refine (laws_sameInts _ _ _ _ _ o8b.ints o9.ints (by omega) (by omega)).mono ?_
      rintro e w10 ⟨rfl, q10, rfl⟩
      rw [show decide (setsZ rn 8 = setsZ rn 8) = true from decide_eq_true rfl]
      have B10 : Below w.heap.size w (w9.drewN q10) := B2.trans ((below_drewN C9 q10).mono B2.size)
      go_wp2
      go_ret
      exact ⟨rfl, B10⟩

theorem table {W : World} (h : laidMetH Tryd.prog Rows.fnSetsRow.laid W) : TabSets W := sets_of_laid h
theorem readable : ∀ n ∈ Rows.fnSetsSpec.vars, ∀ g t, Tryd.prog.globalNamed n = some g → (Tryd.prog.globals[g]?).map (·.type) = some t → Tryd.prog.readableRec t = true ∧ t < Tryd.prog.types.size := sets_readable

end Go.Proofs.YtlakpddabkmpoaaDoor.fnSets
