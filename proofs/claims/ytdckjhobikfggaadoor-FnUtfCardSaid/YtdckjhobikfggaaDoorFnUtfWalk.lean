/- The walk of 'FnUtf': the law returns true at every argument, where the package's sentinels and the library's errorType read as their texts lay them. -/
import Derived.Test.YtdckjhobikfggaaDoorRunesC
import Derived.Test.YtdckjhobikfggaaDoorTakeC
import Derived.Test.YtdckjhobikfggaaDoorErrsLaid
import Derived.Test.YtdckjhobikfggaaDoorUtfF
import Derived.Test.YtdckjhobikfggaaDoorHexB
import Derived.Test.YtdckjhobikfggaaDoorDrawG
import Derived.Test.YtdckjhobikfggaaDoorLawsAt
import Derived.Test.YtdckjhobikfggaaDoorLawsMix
import Derived.Test.YtdckjhobikfggaaDoorLawsSame
namespace Go.Proofs.YtdckjhobikfggaaDoor.fnUtf
open Go.RowKit

theorem _root_.Go.Proofs.YtdckjhobikfggaaDoor.IsRow.bytes {w : World} {a : Option Addr} {len cap : Nat} {zs : List Int} (h : IsRow .u8 w a len cap zs) : ∀ z ∈ zs.take len, 0 ≤ z ∧ z ≤ 255 := by
  intro z hz
  rcases h with ⟨_, _, _, rfl⟩ | ⟨x, _, _, _, _, _, hwf⟩
  · simp at hz
  · have := hwf z (List.mem_of_mem_take hz)
    simp [Lit.wf] at this
    have m0 : IntKind.u8.min = 0 := by decide
    have m1 : IntKind.u8.max = 255 := by decide
    omega
theorem _root_.Go.Proofs.YtdckjhobikfggaaDoor.IsRow.none {k : IntKind} {w : World} {a : Option Addr} {len cap : Nat} {zs : List Int} (h : IsRow k w a len cap zs) : ∀ n c, Value.slice a len cap = .slice none n c → c = 0 := by
  intro n c hv
  injection hv with h1 h2 h3
  rcases h with ⟨_, _, h4, _⟩ | ⟨x, hx, _⟩
  · omega
  · rw [hx] at h1; cases h1

set_option maxHeartbeats 1000000 in
set_option maxRecDepth 100000 in
theorem walk (a : Option Addr) (len cap : Nat) (zs : List Int) (a' : Option Addr) (len' cap' : Nat) (zs' : List Int) (w : World)
    (hr : IsRow .u8 w a len cap zs) (hr' : IsRow .u8 w a' len' cap' zs') (ht : (∃ a b, Sents w a b) ∧ ErrType w) :
    Calls Tryd.prog 3 #[.slice a len cap, .slice a' len' cap'] w fun e w' => e = .returned (.bool true) ∧ Below w.heap.size w w' := by
  obtain ⟨⟨sa, sb, hS⟩, hT⟩ := ht
  have HS := Lib.hid hS
  have HT := Lib.hid hT
  have hi := hr.ints
  have ⟨hl, hm⟩ := hr.length
  have hi' := hr'.ints
  have ⟨hl', hm'⟩ := hr'.length
  have hb := hr.bytes
  have hb' := hr'.bytes
  have hn := hr.none
  clear hS hT hr hr'
  unfold maxLen at hm hm'
  generalize zs.take len = ys at *
  generalize zs'.take len' = ys' at *
  have HI := Lib.hid hi
  have HI' := Lib.hid hi'
  have HB := Lib.hid hb
  have HB' := Lib.hid hb'
  have HL := Lib.hid hl
  have HL' := Lib.hid hl'
  have HN := Lib.hid hn
  clear hi hi' hb hb' hl hl' hn
  by_cases h1 : 1048576 < len
  · go_enter Tryd.func3, Tryd.ntmps3
    go_wp2
    go_ret
    exact ⟨rfl, Below.refl _ _⟩
  by_cases h2 : 1048576 < len'
  · go_enter Tryd.func3, Tryd.ntmps3
    go_wp2
    go_ret
    exact ⟨rfl, Below.refl _ _⟩
  go_enter Tryd.func3, Tryd.ntmps3
  go_wp2
  go_loopw [5, 6] (fun v i wr => ∃ (k : Nat) (acc : List Int), k ≤ 8 ∧ Hid (acc.length = k) ∧ i = .int .i64 k ∧ Hid (okAll acc = true) ∧ Own .i64 3 wr w.heap.size v acc ∧ Below w.heap.size w wr) (fun _ i _ => 8 - (intOf i).toNat)
  case atStart => exact ⟨0, [], by omega, Lib.hid rfl, rfl, Lib.hid rfl, Own.lit .i64 3 w w.heap.size [] (Nat.le_refl _) (by simp), (Below.refl _ _).alloc (Nat.le_refl _) _⟩
  case round =>
    obtain ⟨k, acc, hk, HK, rfl, HO, ho, hb⟩ := hrel
    go_wp2_with fail
    refine (laws_at _ ys' 0 8 wr (HI'.out.keep hb) HB'.out (by have := HL'.out; omega) (by omega) (by omega)).mono ?_
    rintro e w1 ⟨r, q, rfl, r0, r1, rfl⟩
    have hbq : Below w.heap.size w (wr.drewN q) := below_drewN hb q
    have hoq : Own .i64 3 (wr.drewN q) w.heap.size _ acc := ho.all (below_drewN (Below.refl _ _) q)
    have hsz : w.heap.size ≤ (wr.drewN q).heap.size := hbq.size
    generalize wr.drewN q = w1 at *
    clear ho hb
    by_cases hlt : (k : Int) < 1 + r
    · have hlt8 : k < 8 := by omega
      go_wp2_with fail
      refine (laws_mix k _ ys w1 (HI.out.keep hbq) HN.out (by omega) (by have := HL.out; omega)).mono ?_
      rintro e w2 ⟨v2, rfl, o2, b2⟩
      go_wp2_with fail
      refine (spec_RuneDrawn v2 ((k : Int) :: ys) w2 o2.ints (by intro z hz; rcases List.mem_cons.1 hz with rfl | hz; · omega
                                                                 exact HB.out z hz) (by have := HL.out; simp; omega)).mono ?_
      rintro e w3 ⟨⟨x, rfl, hx⟩, b3⟩
      have B3 : Below w1.heap.size w1 w3 := b2.trans (b3.mono b2.size)
      have B3w : Below w.heap.size w w3 := hbq.trans (B3.mono hsz)
      have o3 := hoq.all B3
      have hsz3 := B3w.size
      clear o2 hoq b2 b3
      go_wp2_with (at_builtin; refine app_i64 _ rfl _ _ rfl w.heap.size _ _ rfl (o3.alloc _) ⟨w3.heap.size, 0, none⟩ 1 1 [x] rfl rfl (by omega) (World.news_of_block (heap_alloc_new _ _)) (by have := HK.out; omega) (by simp; omega) ?_)
      intro g cap2 w4 o4 g4 lt4
      go_wp2
      go_roundw
      case rel =>
        refine ⟨k + 1, acc ++ [x], by omega, Lib.hid (by simp [HK.out]), by go_num, Lib.hid (by have := HO.out; unfold okAll at *; rw [List.all_append, this]; simp [hx]), o4, (B3w.alloc hsz3 _).grown g4 (by simp; omega) (fun j hj => (World.ownsRow.lt o3 j hj).1)⟩
      case measure => simp [intOf]; omega
    · have hk1 : 1 ≤ k := by omega
      obtain ⟨S, D, F⟩ := utf_facts acc HO.out (by have := HK.out; omega) (by have := HK.out; omega)
      have FF := Lib.hid F
      have hs1 := F.s1
      have hs2 := F.s2
      have hal : acc.length ≤ 8 := by have := HK.out; omega
      obtain ⟨g, cp, rfl⟩ : ∃ g cp, u5 = .slice (some ⟨g, 0, none⟩) acc.length cp := by
        obtain ⟨ad, cp, hv, _, _, h3, h4⟩ := hoq.shape
        cases ad with
        | none =>
          have h5 := (h3 rfl).1
          have h6 := HK.out
          rw [h5] at h6
          simp at h6
          omega
        | some x =>
          obtain ⟨b, off, spot⟩ := x
          obtain ⟨rfl, rfl, _⟩ := h4 _ rfl
          exact ⟨b, cp, hv⟩
      have hpos : 0 < acc.length := by have := HK.out; omega
      have HP := Lib.hid hpos
      have hal0 : (0 : Int) < (acc.length : Int) := by omega
      clear F hpos
      generalize hX : acc.getD 0 0 = x
      have HX := Lib.hid hX
      clear hX
      go_wp2_with fail
      refine (impl_TextOf _ acc w1 hoq.ints (by omega)).mono ?_
      rintro e w2 ⟨rfl, b2⟩
      rw [FF.out.tv, FF.out.tc]
      have o2 := hoq.all b2
      have B2 : Below w.heap.size w w2 := hbq.trans (b2.mono hbq.size)
      clear hoq hbq b2 hsz
      go_wp2_with fail
      refine (spec_TextOf _ acc w2 o2.ints (by omega)).mono ?_
      rintro e w3 ⟨rfl, b3⟩
      rw [FF.out.tv, FF.out.tc]
      have o3 := o2.all b3
      have B3 : Below w.heap.size w w3 := B2.trans (b3.mono B2.size)
      clear o2 B2 b3
      go_wp2_with fail
      refine (impl_RunesOf S sa sb w3 (by omega) (HS.out.keep B3) (HT.out.keep B3)).mono ?_
      rintro e w4 ⟨v4, rfl, p4, b4⟩
      rw [FF.out.rc]
      rw [FF.out.rz] at p4
      have o4 := o3.all b4
      have B4 : Below w.heap.size w w4 := B3.trans (b4.mono B3.size)
      have hc4 := o4.cell 0 HP.out
      rw [HX.out] at hc4
      clear o3 B3 b4
      have hpv : putV x = D := by rw [← HX.out]; exact FF.out.pv
      have hpc : putC x = 0 := by rw [← HX.out]; exact FF.out.pc
      have htr : trV S 0 = .tuple #[.int .i64 x, .int .i64 D.size, .int .i64 0] := by rw [← HX.out]; exact FF.out.tr
      have hok : okB x = true := by rw [← HX.out]; exact FF.out.ok
      have HPV := Lib.hid hpv
      have HPC := Lib.hid hpc
      have HTR := Lib.hid htr
      have HOK := Lib.hid hok
      clear hpv hpc htr hok
      go_wp2_with fail
      refine (impl_PutRune x w4).mono ?_
      rintro e w5 ⟨rfl, rfl⟩
      rw [HPV.out, HPC.out]
      go_wp2_with fail
      refine (spec_PutRune x w4).mono ?_
      rintro e w5 ⟨rfl, b5⟩
      rw [HPV.out, HPC.out]
      have o5 := o4.all b5
      have B5 : Below w.heap.size w w5 := B4.trans (b5.mono B4.size)
      have p5 := p4.all b5
      clear o4 B4 b5 p4 hc4
      go_wp2_with fail
      refine (impl_TakeRune S 0 sa sb w5 (by omega) (HS.out.keep B5)).mono ?_
      rintro e w6 ⟨rfl, b6⟩
      rw [HTR.out]
      have o6 := o5.all b6
      have B6 : Below w.heap.size w w6 := B5.trans (b6.mono B5.size)
      have p6 := p5.all b6
      have hc6 := o6.cell 0 HP.out
      rw [HX.out] at hc6
      clear o5 B5 b6 p5
      go_wp2_with fail
      refine (laws_sameInts _ _ acc acc w6 p6.ints o6.ints (by omega) (by omega)).mono ?_
      rintro e w7 ⟨rfl, q7, rfl⟩
      rw [show decide (acc = acc) = true from decide_eq_true rfl]
      have o7 : Own .i64 3 (w6.drewN q7) w.heap.size _ acc := o6.all (below_drewN (Below.refl _ _) q7)
      have B7 : Below w.heap.size w (w6.drewN q7) := below_drewN B6 q7
      clear hc6
      generalize w6.drewN q7 = w7 at *
      have hc7 := o7.cell 0 HP.out
      rw [HX.out] at hc7
      clear o6 B6 p6
      go_wp2_with fail
      refine (impl_RuneOK x w7).mono ?_
      rintro e w8 ⟨rfl, rfl⟩
      rw [HOK.out]
      go_wp2_with fail
      refine (laws_at _ ys' 1 S.size w7 (HI'.out.keep B7) HB'.out (by have := HL'.out; omega) (by omega) (by omega)).mono ?_
      rintro e w8 ⟨r8, q8, rfl, r80, r81, rfl⟩
      obtain ⟨j, rfl, hj⟩ : ∃ j : Nat, r8 = (j : Int) ∧ j ≤ S.size := ⟨r8.toNat, by omega, by omega⟩
      have hj0 : (0 : Int) ≤ (j : Int) := by omega
      have hj1 : (j : Int) ≤ (S.size : Int) := by omega
      have B8 : Below w.heap.size w (w7.drewN q8) := below_drewN B7 q8
      clear hc7 o7 r80 r81
      generalize w7.drewN q8 = w8 at *
      clear B7
      have hsP : (S.extract 0 j).size ≤ 32 := by rw [ByteArray.size_extract]; omega
      go_wp2_with fail
      refine (impl_RunesOf (S.extract 0 j) sa sb w8 (by omega) (HS.out.keep B8) (HT.out.keep B8)).mono ?_
      rintro e w9 ⟨v9, rfl, p9, b9⟩
      have B9 : Below w.heap.size w w9 := B8.trans (b9.mono B8.size)
      clear p9 b9 B8
      go_wp2_with fail
      refine (spec_RunesOf (S.extract 0 j) w9 (by omega)).mono ?_
      rintro e w10 ⟨v10, rfl, p10, b10⟩
      have B10 : Below w.heap.size w w10 := B9.trans (b10.mono B9.size)
      clear p10 b10 B9
      go_wp2_with fail
      go_quiet (fail)
      obtain ⟨T, hT, hT1, hT2⟩ := bad_255 S j hj hs2
      rw [hT]
      have hT3 : (roC T != 0) = true := by simpa using hT2
      have B11 : Below w.heap.size w (w10.drewN nq) := below_drewN B10 nq
      clear hT hT2 B10
      generalize w10.drewN nq = w11 at *
      go_wp2_with fail
      refine (impl_RunesOf T sa sb w11 (by omega) (HS.out.keep B11) (HT.out.keep B11)).mono ?_
      rintro e w12 ⟨v12, rfl, p12, b12⟩
      have B12 : Below w.heap.size w w12 := B11.trans (b12.mono B11.size)
      clear p12 b12 B11
      go_wp2_with fail
      refine (spec_RunesOf T w12 (by omega)).mono ?_
      rintro e w13 ⟨v13, rfl, p13, b13⟩
      have B13 : Below w.heap.size w w13 := B12.trans (b13.mono B12.size)
      clear p13 b13 B12
      go_wp2_with fail
      refine (impl_HexOf S w13 (by omega)).mono ?_
      rintro e w14 ⟨rfl, b14⟩
      have B14 : Below w.heap.size w w14 := B13.trans (b14.mono B13.size)
      have hh := FF.out.hs
      clear b14 B13
      go_wp2_with fail
      refine (impl_BytesOf (hexV S) w14 (by omega)).mono ?_
      rintro e w15 ⟨rfl, b15⟩
      rw [FF.out.bv, FF.out.bc]
      have B15 : Below w.heap.size w w15 := B14.trans (b15.mono B14.size)
      clear b15 B14
      go_wp2_with fail
      refine (spec_HexOf S w15 (by omega)).mono ?_
      rintro e w16 ⟨rfl, b16⟩
      have B16 : Below w.heap.size w w16 := B15.trans (b16.mono B15.size)
      clear b16 B15
      go_wp2
      go_ret
      exact ⟨rfl, B16⟩

theorem table {W : World} (h : laidMetH Tryd.prog Rows.fnUtfRow.laid W) : (∃ a b, Sents W a b) ∧ ErrType W := tab_errors h
theorem readable : ∀ n ∈ Rows.fnUtfSpec.vars, ∀ g t, Tryd.prog.globalNamed n = some g → (Tryd.prog.globals[g]?).map (·.type) = some t → Tryd.prog.readableRec t = true ∧ t < Tryd.prog.types.size := sents_readable

end Go.Proofs.YtdckjhobikfggaaDoor.fnUtf
