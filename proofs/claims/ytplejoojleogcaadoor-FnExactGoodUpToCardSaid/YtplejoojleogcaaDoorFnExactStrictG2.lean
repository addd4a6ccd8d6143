/- The program's Decode, ValidText, GoodUpTo. Joined of: RdWS, RfS, RdX, RdY, DcX, RdZ. -/
import Derived.Test.YtplejoojleogcaaDoorFnExactStrictG1
import Derived.Defers
import Derived.Recover
import Derived.WalkKit

namespace Go.Proofs.YtplejoojleogcaaDoor
open Go.RowKit Go.Shelf Go.Sort

/-- What holds between two rounds of the reading. -/
def RIS (n : Int) (s : ByteArray) (z0 : List Int) (b C Bt : Nat) (WB : World) (k : Nat) (W : World) : Prop := ∃ (f : Nat) (xs : St) (zs : List Int) (l : Value), (s.size ≤ k + f ∧ zs.length ≤ 2 * k + 1 ∧ k ≤ s.size) ∧ decT n s s.size 0 (startP n) z0 = decT n s f k xs zs ∧ stOKB xs = true ∧ RSt W b C n xs l zs ∧ Only b WB W ∧ W.heap[Bt]? = some (.cells #[.string s] 9)
theorem RIS.gr {n : Int} {s : ByteArray} {z0 : List Int} {b C Bt N : Nat} {WB : World} {k : Nat} {A B : World} (h : RIS n s z0 b C Bt WB k A) (hg : Gr N A B) (hN : WB.heap.size ≤ N) (hb : b < WB.heap.size) : RIS n s z0 b C Bt WB k B := by
  obtain ⟨f, xs, zs, l, h1, h2, h3, h4, h5, h6⟩ := h
  exact ⟨f, xs, zs, l, h1, h2, h3, h4.gr hg, h5.gr hg hN hb, hg.block _ _ h6 (.inl rfl)⟩

set_option maxHeartbeats 8000000 in
set_option maxRecDepth 100000 in
theorem impl_readS (n : Int) (s : ByteArray) (b : Nat) (w : World) (h : RdAt w b n (.map none) (startP n) (.slice none 0 0)) (hT : ∀ W, Only b w W → TabM W) (hn : proB n = true) (hs : s.size ≤ 4096) :
    Calls Tryd.prog 59 #[.pointer (some ⟨b, 0, none⟩), .string s, .func (.func 104) #[] #[]] w fun e w' => (e = .returned (.tuple #[]) ∧ ∃ x l z, decP n s = ⟨z, s.size, endC n x⟩ ∧ stOKB x = true ∧ RSt w' b (w.heap.size + 2) n x l z ∧ Only b w w') ∨ (∃ p c, e = .panicked (faultP p c) ∧ ∃ x l z, decP n s = ⟨z, p, c⟩ ∧ RSt w' b (w.heap.size + 2) n x l z ∧ Only b w w') := by
  have HTk := Lib.hid (fun w => impl_tokensIn s w)
  refine calls_of_wpF Tryd.func59 rfl ?_
  simp only [Tryd.ntmps59, List.size_toArray, List.length_cons, List.length_nil, Nat.reduceAdd, Nat.reduceSub, Array.replicate_succ, Array.replicate_zero, List.push_toArray, List.append_toArray, List.nil_append, List.cons_append]
  have RB : Hid (RSt ((w.alloc (.cells #[.pointer (some ⟨b, 0, none⟩)] 117)).alloc (.cells #[.func (.func 104) #[] #[]] 87)) b (w.heap.size + 2) n (startP n) (.slice none 0 0) []) := Lib.hid ⟨_, h.keep (below_two w _ _), .inl rfl, Own.nil _ _ _ _⟩
  have OB : Hid (Only b w ((w.alloc (.cells #[.pointer (some ⟨b, 0, none⟩)] 117)).alloc (.cells #[.func (.func 104) #[] #[]] 87))) := Lib.hid (only_below h.lt (below_two w _ _))
  have X3 : Hid (((w.alloc (.cells #[.pointer (some ⟨b, 0, none⟩)] 117)).alloc (.cells #[.func (.func 104) #[] #[]] 87)).heap[w.heap.size]? = some (.cells #[.pointer (some ⟨b, 0, none⟩)] 117)) := Lib.hid (heap_alloc2_old _ _ _)
  have X5 : Hid (((w.alloc (.cells #[.pointer (some ⟨b, 0, none⟩)] 117)).alloc (.cells #[.func (.func 104) #[] #[]] 87)).heap[w.heap.size + 1]? = some (.cells #[.func (.func 104) #[] #[]] 87)) := Lib.hid (heap_alloc2_new _ _ _)
  have HsB : Hid (((w.alloc (.cells #[.pointer (some ⟨b, 0, none⟩)] 117)).alloc (.cells #[.func (.func 104) #[] #[]] 87)).heap.size = w.heap.size + 2) := Lib.hid (by simp)
  have hbl : b < w.heap.size := h.lt
  have ⟨_, _, e2, _, _, _, _, _, _, _⟩ := (h.keep (below_two w (.cells #[.pointer (some ⟨b, 0, none⟩)] 117) (.cells #[.func (.func 104) #[] #[]] 87))).cells
  have e3 : ((w.alloc (.cells #[.pointer (some ⟨b, 0, none⟩)] 117)).alloc (.cells #[.func (.func 104) #[] #[]] 87)).cell? ⟨w.heap.size, 0, none⟩ = some (.pointer (some ⟨b, 0, none⟩)) := by rw [cell_of_row _ _ _ _ _ _ X3.out]; rfl
  have e5 : ((w.alloc (.cells #[.pointer (some ⟨b, 0, none⟩)] 117)).alloc (.cells #[.func (.func 104) #[] #[]] 87)).cell? ⟨w.heap.size + 1, 0, none⟩ = some (.func (.func 104) #[] #[]) := by rw [cell_of_row _ _ _ _ _ _ X5.out]; rfl
  clear h
  refine wpF_seq (wpF_of_wp ?_)
  go_wp2
  generalize ((w.alloc (.cells #[.pointer (some ⟨b, 0, none⟩)] 117)).alloc (.cells #[.func (.func 104) #[] #[]] 87)) = WB at *
  have HH : Hid (headB n s = hasPre s (prHead n)) := Lib.hid rfl
  have HPt := Lib.hid (fun w => str_HasPrefix s (prHead n) w)
  refine wpF_seq (wpF_of_wp ?_)
  cases hh : hasPre s (prHead n)
  · rw [hh] at HPt
    have HDp : Hid (decP n s = ⟨[], 0, 15⟩) := Lib.hid (by rw [decP, HH.out, hh]; rfl)
    have hsB := HsB.out
    have HRp := Lib.hid (impl_stop zeroTok 15 WB)
    unfold tokV zeroTok at HRp
    clear hsB
    go_wp2_with fail
    refine (HPt.out _).mono ?_
    rintro e w0 ⟨rfl, rfl⟩
    go_wp2_with fail
    refine HRp.out.mono ?_
    rintro e W0 ⟨rfl, b0⟩
    have hsB := HsB.out
    have o0 := only_below RB.out.lt b0
    exact .inr ⟨0, 15, rfl, startP n, .slice none 0 0, [], HDp.out, RB.out.keep b0 (by omega), OB.out.trans o0⟩
  · rw [hh] at HPt
    have HDp : Hid (decP n s = decT n s s.size 0 (startP n) []) := Lib.hid (by rw [decP, HH.out, hh]; rfl)
    have R0 := RB
    have O0 : Hid (Only b WB WB) := Lib.hid (Only.refl _ _)
    go_wp2_with fail
    refine (HPt.out _).mono ?_
    rintro e w0 ⟨rfl, rfl⟩
    clear e2 e3 e5
    go_wp2
    refine wpF_seq (wpF_of_wp ?_)
    go_wp2_with fail
    refine (HTk.out _).mono ?_
    rintro e w9 ⟨rfl, rfl⟩
    go_wp2
    refine wpF_block ?_
    have hBt : (WB.alloc (.cells #[.string s] 9)).heap[WB.heap.size]? = some (.cells #[.string s] 9) := heap_alloc_new _ _
    have hsB1 := Nat.le_of_eq HsB.out
    have hsB2 := Nat.le_of_eq HsB.out.symm
    have hs0 := O0.out.1.size
    have hs3 : (WB.alloc (.cells #[.string s] 9)).heap.size = WB.heap.size + 1 := by simp
    have I0 : RIS n s [] b (w.heap.size + 2) WB.heap.size WB 0 (WB.alloc (.cells #[.string s] 9)) :=
      ⟨s.size, startP n, [], _, ⟨by omega, by simp, by omega⟩, rfl, startP_ok n, R0.out.keep (below_one _ _) (by omega), O0.out.trans (only_below R0.out.lt (below_one _ _)), hBt⟩
    refine wpF_rangeFunc Tryd.func59 (gf := 124) (lb := #[.pointer (some ⟨WB.heap.size, 0, none⟩)]) rfl (enters_of Tryd.func124 (by kernel_rfl) rfl) (fun _ => rfl) (impl_tokensIn1 s (by omega) _ WB.heap.size hBt)
      (RIS n s [] b (w.heap.size + 2) WB.heap.size WB) (fun ch W => ∃ p c, ch = faultP p c ∧ ∃ x l z, decP n s = ⟨z, p, c⟩ ∧ RSt W b (w.heap.size + 2) n x l z ∧ Only b WB W)
      (fun k a W => ∃ XB, a = { tmps := #[.pointer (some ⟨b, 0, none⟩), .string s, .func (.func 104) #[] #[], .pointer (some ⟨w.heap.size, 0, none⟩), undef, .pointer (some ⟨w.heap.size + 1, 0, none⟩), .pointer (some ⟨XB, 0, none⟩), undef, undef, undef, .string s, .pointer (some ⟨b, 0, none⟩), .pointer (some ⟨b, 0, none⟩), .pointer (some ⟨b, 0, none⟩), .pointer (some ⟨b, 1, none⟩), .pointer (some ⟨b, 2, none⟩), .string (prHead n), .bool true, .bool false, undef, undef, undef, .string s, .func (.func 124) #[] #[.pointer (some ⟨WB.heap.size, 0, none⟩)], tokV (nextTok s k), undef, undef, undef, undef, undef, undef, undef, undef, undef, undef, undef, undef, undef, undef, undef, undef, undef, undef, undef, undef, undef, undef, undef, undef, undef, undef, undef, undef, undef], defers := [] } ∧ TokAt W XB (nextTok s k))
      (fun k A B h hg => h.gr hg (by omega) (by omega)) (fun k a A B h hg => by obtain ⟨XB, e, hX⟩ := h; exact ⟨XB, e, hX.gr hg⟩)
      (fun k A h => by obtain ⟨_, _, _, _, _, _, _, _, _, h6⟩ := h; rw [h6, hBt]) I0 ?assign ?body ?done ?panic
    case assign =>
      intro lp k W K hk hK
      clear I0
      generalize nextTok s k = y at *
      unfold tokV at *
      refine region_round (by kernel_rfl) (fun ⟨_, _, h⟩ => h) ?_
      go_wp2
      exact hK _ _ (below_one _ _) ⟨W.heap.size, rfl, TokAt.new W y⟩
    case body =>
      rintro lp k a1 A W hk ⟨f, xs, zs, l, ⟨hf, hz, hk'⟩, hR, hx, hSA, hOA, hBA⟩ hG ⟨XB, rfl, hX⟩
      clear I0 hBt
      have hSW := hSA.gr hG
      have hOW := hOA.gr hG (by omega) (by omega)
      have c3 : W.cell? ⟨w.heap.size, 0, none⟩ = some (.pointer (some ⟨b, 0, none⟩)) := by rw [cell_of_row _ _ _ _ _ _ ((hOW.2 w.heap.size (by omega) (by omega)).trans X3.out)]; rfl
      have hyk := nextTok_ok s k hk (by omega)
      have hTW : ∀ W', Only b W W' → TabM W' := fun W' o => hT W' (OB.out.trans (hOW.trans o))
      obtain ⟨y, hy⟩ : ∃ y, nextTok s k = y := ⟨_, rfl⟩
      rw [hy] at hX hyk
      simp only [hy]
      have hG7 := fun W' hR' hC' hT' => impl_gstepS n xs l zs y b (w.heap.size + 2) W' hR' (by omega) hC' hT' hn hx hyk
      have hS : (fun W' : World => W'.cell? ⟨w.heap.size, 0, none⟩ = some (.pointer (some ⟨b, 0, none⟩)) ∧ TokAt W' XB y) W.drew := ⟨c3, hX⟩
      have hXb : XB ≠ b := fun e => by
        obtain ⟨m, hm, _⟩ := hSW
        rw [e] at hX
        have := hX.symm.trans hm
        cases this
      refine wpIn_block ?_
      refine wpIn_seq ?_
      unfold tokV
      refine region_round_held (S := (fun W' : World => W'.cell? ⟨w.heap.size, 0, none⟩ = some (.pointer (some ⟨b, 0, none⟩)) ∧ TokAt W' XB y)) (by kernel_rfl) (by kernel_rfl) (fun ⟨_, _, h⟩ => h) ?_
      refine wpAnyH_take (i := 0) (v := .pointer (some ⟨b, 0, none⟩)) rfl (by kernel_rfl) (by kernel_rfl) (by kernel_rfl) (fun _ _ _ h => h) (.inl ⟨by rfl, fun w' hS' => by have s1 := hS'.1; go_simp⟩) hS ?_
      refine wpAnyH_take (i := 1) (v := .pointer (some ⟨b, 0, none⟩)) rfl (by kernel_rfl) (by kernel_rfl) (by kernel_rfl) (fun _ _ _ h => h) (.inl ⟨by rfl, fun w' hS' => by go_simp⟩) hS ?_
      refine wpAnyH_take (i := 2) (v := .pointer (some ⟨b, 0, none⟩)) rfl (by kernel_rfl) (by kernel_rfl) (by kernel_rfl) (fun _ _ _ h => h) (.inl ⟨by rfl, fun w' hS' => by go_simp⟩) hS ?_
      refine wpAnyH_take (i := 3) (v := .pointer (some ⟨b, 0, none⟩)) rfl (by kernel_rfl) (by kernel_rfl) (by kernel_rfl) (fun _ _ _ h => h) (.inl ⟨by rfl, fun w' hS' => by have s1 := hS'.1; go_simp⟩) hS ?_
      refine wpAnyH_take (i := 4) (v := .pointer (some ⟨b, 0, none⟩)) rfl (by kernel_rfl) (by kernel_rfl) (by kernel_rfl) (fun _ _ _ h => h) (.inl ⟨by rfl, fun w' hS' => by go_simp⟩) hS ?_
      refine wpAnyH_take (i := 5) (v := .pointer (some ⟨b, 10, none⟩)) rfl (by kernel_rfl) (by kernel_rfl) (by kernel_rfl) (fun _ _ _ h => h) (.inl ⟨by rfl, fun w' hS' => by go_simp⟩) hS ?_
      refine wpAnyH_take (i := 6) (v := .agg #[.int .i64 y.k, .int .i64 y.a, .int .i64 y.b, .int .i64 y.c, .int .i64 y.p, .int .i64 y.n]) rfl (by kernel_rfl) (by kernel_rfl) (by kernel_rfl) (fun _ _ _ h => h) (.inl ⟨by rfl, fun w' hS' => by have s1 := hS'.1; have ⟨t0, t1, t2, t3, t4, t5⟩ := hS'.2.cells; go_simp⟩) hS ?_
      have hSd : RSt W.drew b (w.heap.size + 2) n xs l zs := hSW
      have hCd : w.heap.size + 2 ≤ W.drew.heap.size := by have := hOW.1.size; have e : W.drew.heap.size = W.heap.size := rfl; omega
      have hGc := hG7 W.drew hSd hCd (fun W' o => hTW W' ((show Only b W W.drew from (Only.refl b W).drewN 1).trans o))
      have hr := stepP_r (n := n) (x := xs) hyk
      have HX2 := stepP_ok (n := n) hx hyk
      unfold mvV tokV at hGc
      obtain ⟨p, hp⟩ : ∃ p, stepP n xs y = p := ⟨_, rfl⟩
      rw [hp] at hGc hr HX2
      obtain ⟨tr, htr⟩ : ∃ tr, toldR p = tr := ⟨_, rfl⟩
      obtain ⟨tb, htb⟩ : ∃ tb, toldB p = tb := ⟨_, rfl⟩
      rw [htr, htb] at hGc
      refine wpAnyH_ready (rs := [7]) (by kernel_rfl) (by simp) (AllReadyH.cons rfl (fun K hK => ?_) AllReadyH.nil)
      have HSt := Lib.hid hS
      clear hS
      have HGc := Lib.hid hGc
      clear hGc
      go_simp
      refine HGc.out.mono ?_
      rintro e w1 ⟨rfl, hS1, o1⟩
      have b1w : W.heap.size ≤ w1.heap.size := o1.1.size
      have o1' : Only b W w1 := (show Only b W W.drew from (Only.refl b W).drewN 1).trans o1
      have hX1 : TokAt w1 XB y := (o1'.2 XB hXb hX.lt).trans hX
      have c31 : w1.cell? ⟨w.heap.size, 0, none⟩ = some (.pointer (some ⟨b, 0, none⟩)) := by rw [cell_of_row _ _ _ _ _ _ (((hOW.trans o1').2 w.heap.size (by omega) (by omega)).trans X3.out)]; rfl
      have hSS : (fun W' : World => W'.cell? ⟨w.heap.size, 0, none⟩ = some (.pointer (some ⟨b, 0, none⟩)) ∧ TokAt W' XB y) w1 := ⟨c31, hX1⟩
      refine hK.out _ _ hSS (fun _ => ?_)
      clear hK K
      refine wpAnyH_take (i := 8) (v := .tuple #[.int .i64 tr, .bool tb, .int .i64 p.c]) rfl (by kernel_rfl) (by kernel_rfl) (by kernel_rfl) (fun _ _ _ h => h) (.inl ⟨by rfl, fun w' hS' => by go_simp⟩) hSS ?_
      refine wpAnyH_take (i := 9) (v := .int .i64 tr) rfl (by kernel_rfl) (by kernel_rfl) (by kernel_rfl) (fun _ _ _ h => h) (.inl ⟨by rfl, fun w' hS' => by go_simp⟩) hSS ?_
      refine wpAnyH_take (i := 10) (v := .bool tb) rfl (by kernel_rfl) (by kernel_rfl) (by kernel_rfl) (fun _ _ _ h => h) (.inl ⟨by rfl, fun w' hS' => by go_simp⟩) hSS ?_
      refine wpAnyH_take (i := 11) (v := .int .i64 p.c) rfl (by kernel_rfl) (by kernel_rfl) (by kernel_rfl) (fun _ _ _ h => h) (.inl ⟨by rfl, fun w' hS' => by go_simp⟩) hSS ?_
      refine wpAnyH_take (i := 12) (v := .int .i64 tr) rfl (by kernel_rfl) (by kernel_rfl) (by kernel_rfl) (fun _ _ _ h => h) (.inl ⟨by rfl, fun w' hS' => by go_simp⟩) hSS ?_
      refine wpAnyH_take (i := 13) (v := .bool tb) rfl (by kernel_rfl) (by kernel_rfl) (by kernel_rfl) (fun _ _ _ h => h) (.inl ⟨by rfl, fun w' hS' => by go_simp⟩) hSS ?_
      refine wpAnyH_take (i := 14) (v := .int .i64 p.c) rfl (by kernel_rfl) (by kernel_rfl) (by kernel_rfl) (fun _ _ _ h => h) (.inl ⟨by rfl, fun w' hS' => by go_simp⟩) hSS ?_
      refine wpAnyH_done (by kernel_rfl) ?_ _
      dsimp only [Exit.then, Exit.inBlock]
      refine (?_ : Code.wpIn (Fence.wide.inRound lp) 0 Tryd.prog _ _ { tmps := #[.pointer (some ⟨b, 0, none⟩), .string s, .func (.func 104) #[] #[], .pointer (some ⟨w.heap.size, 0, none⟩), undef, .pointer (some ⟨w.heap.size + 1, 0, none⟩), .pointer (some ⟨XB, 0, none⟩), .int .i64 tr, .bool tb, .int .i64 p.c, .string s, .pointer (some ⟨b, 0, none⟩), .pointer (some ⟨b, 0, none⟩), .pointer (some ⟨b, 0, none⟩), .pointer (some ⟨b, 1, none⟩), .pointer (some ⟨b, 2, none⟩), .string (prHead n), .bool true, .bool false, undef, undef, undef, .string s, .func (.func 124) #[] #[.pointer (some ⟨WB.heap.size, 0, none⟩)], .agg #[.int .i64 y.k, .int .i64 y.a, .int .i64 y.b, .int .i64 y.c, .int .i64 y.p, .int .i64 y.n], .tuple #[.int .i64 tr, .bool tb, .int .i64 p.c], .pointer (some ⟨b, 0, none⟩), .pointer (some ⟨b, 0, none⟩), .pointer (some ⟨b, 0, none⟩), .pointer (some ⟨b, 0, none⟩), .pointer (some ⟨b, 0, none⟩), .pointer (some ⟨b, 10, none⟩), .agg #[.int .i64 y.k, .int .i64 y.a, .int .i64 y.b, .int .i64 y.c, .int .i64 y.p, .int .i64 y.n], .tuple #[.int .i64 tr, .bool tb, .int .i64 p.c], .int .i64 tr, .bool tb, .int .i64 p.c, undef, undef, undef, undef, undef, undef, undef, undef, undef, undef, undef, undef, undef, undef, undef, undef, undef], defers := [] } w1)
      have hKB := fun {w2 : World} (c2 : Chg l.ownBlock b w1 w2) => body_kept hSA hG o1' c2
      have hSB := fun {w2 : World} (c2 : Chg l.ownBlock b w1 w2) => body_str hSA hG o1' c2 hBA
      have hlC : ∀ g, l.ownBlock = some g → WB.heap.size ≤ g := fun g e => by have := (World.ownsRow.lt hSA.own g e).1; omega
      have hOB := fun {w2 : World} (c2 : Chg l.ownBlock b w1 w2) => (hOW.trans o1').chg_trans c2 hlC
      have hdec : ∀ f', f = f' + 1 → decT n s f k xs zs = if p.c = 0 then decT n s f' (k + y.n.toNat) p.y (addR zs p.r) else ⟨zs, k, p.c⟩ := fun f' e => by rw [e, decT, if_pos hk, hy, hp]
      have n0 := (nextTok_in s k hk).1
      have n1 := (nextTok_in s k hk).2.1
      have n2 := (nextTok_in s k hk).2.2
      rw [hy] at n0 n1 n2
      obtain ⟨f', hf'⟩ : ∃ f', f = f' + 1 := ⟨f - 1, by omega⟩
      have HD := Lib.hid (hdec f' hf')
      have hcode := fun h => stepP_code (n := n) (x := xs) (t := y) h
      rw [hp] at hcode
      have HN0 := Lib.hid n0
      clear n0
      refine wpIn_seq ?_
      refine wpIn_seq ?_
      by_cases hc : p.c = 0
      · have ec : (p.c != 0) = false := by simpa using hc
        have HE : decT n s s.size 0 (startP n) [] = decT n s f' (k + y.n.toNat) p.y (addR zs p.r) := by rw [hR, HD.out, if_pos hc]
        refine region_round (by kernel_rfl) (fun ⟨_, _, h⟩ => h) ?_
        go_wp2
        refine wpIn_cond_false rfl ?_
        refine wpIn_skip ?_
        dsimp only [Exit.then]
        refine wpIn_seq ?_
        refine region_round (by kernel_rfl) (fun ⟨_, _, h⟩ => h) ?_
        rcases hr with hr | hr
        · obtain rfl : tb = false := by rw [← htb, toldB, hr]; rfl
          have c0 := Chg.refl l.ownBlock b w1
          go_wp2
          refine wpIn_cond_false rfl ?_
          refine wpIn_skip ?_
          exact ⟨⟨f', p.y, zs, l, ⟨by omega, by omega, by omega⟩, by rw [HE, addR_none hr], HX2, hS1, hOB c0, hSB c0⟩, (hKB c0).1, (hKB c0).2⟩
        · obtain rfl : tb = true := by rw [← htb, toldB, decide_eq_true hr]
          obtain rfl : tr = p.r := by rw [← htr, toldR, if_pos hr]
          go_wp2
          refine wpIn_cond_true rfl ?_
          obtain ⟨la, lc, hlf, _⟩ := hS1.own.shape
          have hlow := fun g hg => (World.ownsRow.lt hS1.own g hg).1
          subst hlf
          have R1 : RSt w1.drew b (w.heap.size + 2) n p.y (.slice la zs.length lc) zs := hS1
          have R2 : RSt (w1.drew.alloc (.cells #[.int .i64 p.r] 3)) b (w.heap.size + 2) n p.y (.slice la zs.length lc) zs := R1.keep (below_one _ _) (by omega)
          have cc2 : Chg (Value.slice la zs.length lc).ownBlock b w1 (w1.drew.alloc (.cells #[.int .i64 p.r] 3)) := ((show Only b w1 w1.drew from (Only.refl b w1).drewN 1).trans (only_below hS1.lt (below_one w1.drew (.cells #[.int .i64 p.r] 3)))).chg _
          have hL2 : (w1.drew.alloc (.cells #[.int .i64 p.r] 3)).heap[w1.heap.size]? = some (.cells #[.int .i64 p.r] 3) := heap_alloc_new w1.drew _
          obtain ⟨m1, hm1, _⟩ := hS1
          have d17 : w1.cell? ⟨b, 17, none⟩ = some (.slice la zs.length lc) := hm1.cells.2.2.2.2.2.2.2.2.2
          have hs1x : (fun W' : World => W'.cell? ⟨w.heap.size, 0, none⟩ = some (.pointer (some ⟨b, 0, none⟩)) ∧ W'.cell? ⟨b, 17, none⟩ = some (.slice la zs.length lc)) w1.drew := ⟨c31, d17⟩
          have hb1 : b < w1.heap.size := hm1.lt
          have hw1 : w.heap.size < w1.heap.size := by have := hOW.1.size; omega
          have hC1 : w.heap.size + 2 ≤ w1.heap.size := by have := (hOW.trans o1').1.size; omega
          have hsz2 : (w1.drew.alloc (.cells #[.int .i64 p.r] 3)).heap.size = w1.heap.size + 1 := by simp
          refine region_round_X (S := (fun W' : World => W'.cell? ⟨w.heap.size, 0, none⟩ = some (.pointer (some ⟨b, 0, none⟩)) ∧ W'.cell? ⟨b, 17, none⟩ = some (.slice la zs.length lc))) (L := 10) (by kernel_rfl) (by kernel_rfl) (fun ⟨_, _, h⟩ => h) ?_
          refine wpAnyX_take (i := 0) (v := .pointer (some ⟨b, 0, none⟩)) rfl (by kernel_rfl) (by kernel_rfl) (by kernel_rfl) (by kernel_rfl) (fun _ _ _ h => h) (.inl ⟨by rfl, fun w' hS' => by have s1 := hS'.1; go_simp⟩) hs1x ?_
          refine wpAnyX_take (i := 1) (v := .pointer (some ⟨b, 0, none⟩)) rfl (by kernel_rfl) (by kernel_rfl) (by kernel_rfl) (by kernel_rfl) (fun _ _ _ h => h) (.inl ⟨by rfl, fun w' hS' => by have s1 := hS'.1; go_simp⟩) hs1x ?_
          refine wpAnyX_take (i := 2) (v := .pointer (some ⟨b, 0, none⟩)) rfl (by kernel_rfl) (by kernel_rfl) (by kernel_rfl) (by kernel_rfl) (fun _ _ _ h => h) (.inl ⟨by rfl, fun w' hS' => by go_simp⟩) hs1x ?_
          refine wpAnyX_take (i := 3) (v := .pointer (some ⟨b, 17, none⟩)) rfl (by kernel_rfl) (by kernel_rfl) (by kernel_rfl) (by kernel_rfl) (fun _ _ _ h => h) (.inl ⟨by rfl, fun w' hS' => by go_simp⟩) hs1x ?_
          refine wpAnyX_take (i := 4) (v := .slice la zs.length lc) rfl (by kernel_rfl) (by kernel_rfl) (by kernel_rfl) (by kernel_rfl) (fun _ _ _ h => h) (.inl ⟨by rfl, fun w' hS' => by have s1 := hS'.2; go_simp⟩) hs1x ?_
          refine wpAnyX_take (i := 5) (v := .int .i64 p.r) rfl (by kernel_rfl) (by kernel_rfl) (by kernel_rfl) (by kernel_rfl) (fun _ _ _ h => h) (.inl ⟨by rfl, fun w' hS' => by go_simp⟩) hs1x ?_
          have HS2 : Hid ((fun W' : World => W'.cell? ⟨w.heap.size, 0, none⟩ = some (.pointer (some ⟨b, 0, none⟩)) ∧ W'.cell? ⟨b, 17, none⟩ = some (.slice la zs.length lc)) (w1.drew.alloc (.cells #[.int .i64 p.r] 3))) := Lib.hid ⟨by
            rw [World.cell?_alloc_some _ _ _ (by rw [hs1x.1]; rfl)]; exact hs1x.1, by
            rw [World.cell?_alloc_some _ _ _ (by rw [hs1x.2]; rfl)]; exact hs1x.2⟩
          refine wpAnyX_one (i := 6) (by kernel_rfl) rfl (fun K hK => ?_)
          clear hs1x
          go_simp
          refine hK.out _ _ (fun _ => HS2.out) (fun _ => ?_)
          clear hK K
          refine wpAnyX_one (i := 7) (by kernel_rfl) rfl (fun K hK => ?_)
          refine step_i64x _ rfl _ _ rfl (w.heap.size + 2) _ zs (by rfl) R2.own w1.heap.size 1 p.r (by rfl) hL2 (by omega) (show w.heap.size + 2 ≤ (w1.drew.alloc (.cells #[.int .i64 p.r] 3)).heap.size from by rw [hsz2]; omega) ?_
          intro g2 cap2 w4 o4 g4 hg4
          have hm2 : RdAt (w1.drew.alloc (.cells #[.int .i64 p.r] 3)) b n m1 p.y (.slice la zs.length lc) := (show RdAt w1.drew b n m1 p.y (.slice la zs.length lc) from hm1).keep (below_one _ _)
          have hm4 : RdAt w4 b n m1 p.y (.slice la zs.length lc) := (g4.block b hm2.lt (fun e => by have := hlow b e.symm; omega)).trans hm2
          have HS4 : Hid ((fun W' : World => W'.cell? ⟨w.heap.size, 0, none⟩ = some (.pointer (some ⟨b, 0, none⟩)) ∧ W'.cell? ⟨b, 17, none⟩ = some (.slice la zs.length lc)) w4) := Lib.hid ⟨g4.cell HS2.out.1 (fun e => by have := hlow _ e.symm; dsimp only at this; omega), hm4.cells.2.2.2.2.2.2.2.2.2⟩
          refine hK.out _ _ (fun _ => HS4.out) (fun _ => ?_)
          clear hK K
          obtain ⟨RA, cA⟩ := R2.app (by omega) o4 g4 hg4
          have cB := cc2.trans cA (fun g e => .inl e)
          refine wpAnyX_one (i := 8) (by kernel_rfl) rfl (fun K hK => ?_)
          go_simp
          refine hK.out _ _ (fun _ => HS4.out) (fun _ => ?_)
          clear hK K
          refine wpAnyX_one (i := 9) (by kernel_rfl) rfl (fun K hK => ?_)
          go_simp
          refine hK.out _ _ (fun _ => HS4.out) (fun _ => ?_)
          clear hK K
          refine wpAnyX_one (i := 10) (by kernel_rfl) rfl (fun K hK => ?_)
          have x17 := hm4.cells.2.2.2.2.2.2.2.2.2
          have q17 := hm4.frozen 17
          have hl4 := hm4.lt
          go_simp
          refine hK.out _ _ (fun h => absurd rfl h) (fun _ => ?_)
          clear hK K
          refine wpAnyX_done (by kernel_rfl) ?_ _
          exact ⟨⟨f', p.y, zs ++ [p.r], _, ⟨by omega, by simp; omega, by omega⟩, by rw [HE, addR_some hr], HX2, RA, hOB cB, hSB cB⟩, (hKB cB).1, (hKB cB).2⟩
      · have ec : (p.c != 0) = true := by simpa using hc
        have HE : decT n s s.size 0 (startP n) [] = ⟨zs, k, p.c⟩ := by rw [hR, HD.out, if_neg hc]
        obtain ⟨hpy, hpr⟩ := hcode hc
        obtain rfl : tb = false := by rw [← htb, toldB, hpr]; rfl
        rw [hpy] at hS1
        have e51 : w1.cell? ⟨w.heap.size + 1, 0, none⟩ = some (.func (.func 104) #[] #[]) := by rw [cell_of_row _ _ _ _ _ _ (((hOW.trans o1').2 (w.heap.size + 1) (by omega) (by omega)).trans X5.out)]; rfl
        have hC1 : w.heap.size + 2 ≤ w1.heap.size := by have := (hOW.trans o1').1.size; omega
        have HRp := Lib.hid (impl_stop y p.c w1)
        unfold tokV at HRp
        have ⟨t0, t1, t2, t3, t4, t5⟩ := hX1.cells
        refine region_round (by kernel_rfl) (fun ⟨_, _, h⟩ => h) ?_
        go_wp2
        refine wpIn_cond_true rfl ?_
        refine region_round (by kernel_rfl) (fun ⟨_, _, h⟩ => h) ?_
        go_wp2_with fail
        refine HRp.out.mono ?_
        clear t0 t1 t2 t3 t4 t5 e51
        rintro e w2 ⟨rfl, b2⟩
        have c2 : Chg l.ownBlock b w1 w2 := (only_below hS1.lt b2).chg _
        exact ⟨rfl, ⟨y.p, p.c, rfl, xs, l, zs, by rw [HDp.out, HE, HN0.out], hS1.keep b2 (by omega), hOB c2⟩, (hKB c2).2⟩
    case done =>
      intro D W hD hI hd
      obtain ⟨f, xs, zs, l, ⟨hf, hz, hk'⟩, hR, hx, hS, hO, hB⟩ := hI
      have hE : decP n s = ⟨zs, s.size, endC n xs⟩ := by
        rw [HDp.out, hR]
        cases f with
        | zero => rfl
        | succ f => rw [decT, if_neg (by omega)]
      have hg := Gr.put hD hd (.deferred none)
      have hO2 := OB.out.trans (hO.gr hg (by omega) (by omega))
      have hS2 := hS.gr hg
      refine ⟨by simp, .inl ⟨_, _, rfl, run_takeDeferred hd, ?_⟩⟩
      exact ⟨_, results_none rfl _ _ _, .inl ⟨rfl, xs, l, zs, hE, hx, hS2, hO2⟩⟩
    case panic =>
      rintro D ch W hD ⟨p, c, rfl, x, l, z, hE, hS, hO⟩ hd
      have hg := Gr.put hD hd (.deferred none)
      have hO2 := OB.out.trans (hO.gr hg (by omega) (by omega))
      have hS2 := hS.gr hg
      refine ⟨by simp, .inl ⟨_, _, rfl, run_takeDeferred hd, ?_⟩⟩
      exact .inr ⟨p, c, rfl, x, l, z, hE, hS2, hO2⟩

end Go.Proofs.YtplejoojleogcaaDoor

namespace Go.Proofs.YtplejoojleogcaaDoor
open Go Go.RowKit

variable {P : Program} {ops : Array Oper} {Q : Exit → Act → List Frame → World → Prop} {cs : List Frame}

theorem opsS_of_list (hQ : ¬ LetsOut (fun e a w => Q e a cs w)) : ∀ (l : List Oper) (j : Nat) (a : Act) (w : World), (∀ i, ops[j + i]? = l[i]?) → wpList P ops (fun e a' w' => Q e a' cs w') l a w → wpOpsS P ops Q (List.range' j l.length) a cs w
  | [], _, _, _, _, h => h
  | o :: l, j, a, w, ho, h => by
    have h0 : ops[j]? = some o := by have := ho 0; simpa using this
    have h1 : ∀ i, ops[j + 1 + i]? = l[i]? := fun i => by have := ho (i + 1); rw [show j + (i + 1) = j + 1 + i by omega] at this; simpa using this
    have ih := fun a w h => opsS_of_list hQ l (j + 1) a w h1 h
    rw [List.length_cons, List.range'_succ]
    unfold wpOpsS
    simp only [h0]
    unfold wpList at h
    split
    · rename_i hw
      rw [if_pos hw] at h
      rcases h with h | ⟨_, h⟩
      · have h' := Oper.wp_mono (fun a w h => ih a w h) h
        unfold Oper.wp at h'
        split
        · rename_i w' hr
          rw [hr] at h'
          exact h'.elim
        · exact h'
      · exact absurd h hQ
    · rename_i hw
      rw [if_neg hw] at h
      exact ih _ _ h

theorem wpS_region_recover {id : Nat} {o : Oper} {rest : List Oper} {a : Act} {w : World} {v : Value} {cs' : List Frame} (hQ : ¬ LetsOut (fun e a w => Q e a cs' w)) (hw : Region.wanted o (yielded (o :: rest).toArray a.tmps) = true) (hr : (execOp a.eval o).run P w = .ok .recover w)
    (hrec : recoverD cs = some (v, cs') ∨ (recoverD cs = none ∧ v = .nilIface ∧ cs' = cs)) (h : wpList P (o :: rest).toArray (fun e a' w' => Q e a' cs' w') rest (a.put o.dst v) w) : (Code.region id (o :: rest).toArray false).wpS P Q a cs w := by
  apply wpS_region
  have hlen : (o :: rest).toArray.size = rest.length + 1 := by simp
  rw [hlen, List.range_eq_range', List.range'_succ]
  unfold wpOpsS
  have h0 : (o :: rest).toArray[0]? = some o := by simp
  simp only [h0]
  rw [if_pos hw, hr]
  have key := opsS_of_list hQ rest 1 (a.put o.dst v) w (fun i => by simp [Nat.add_comm]) h
  rcases hrec with hrec | ⟨hrec, rfl, rfl⟩
  · simp only [hrec]; exact key
  · simp only [hrec]; exact key

end Go.Proofs.YtplejoojleogcaaDoor

namespace Go.Proofs.YtplejoojleogcaaDoor
open Go.RowKit Go.Sort

/-- What the deferred function leaves: the two results, all else as it was. -/
def Caught (ga gc : Nat) (p c : Int) (w w' : World) : Prop := w'.heap[ga]? = some (.cells #[.int .i64 p] 3) ∧ w'.heap[gc]? = some (.cells #[.int .i64 c] 3) ∧ (∀ g, g ≠ ga → g ≠ gc → g < w.heap.size → w'.heap[g]? = w.heap[g]?) ∧ w.heap.size ≤ w'.heap.size ∧ w'.os = w.os ∧ w'.tape = w.tape ∧ w'.output = w.output

set_option maxHeartbeats 2000000 in
set_option maxRecDepth 100000 in
theorem strict_catch (ga gc : Nat) (va vc p c : Int) (w : World) (ha : w.heap[ga]? = some (.cells #[.int .i64 va] 3)) (hc : w.heap[gc]? = some (.cells #[.int .i64 vc] 3)) (hne : ga ≠ gc) :
    CallsD Tryd.prog 103 #[.pointer (some ⟨ga, 0, none⟩), .pointer (some ⟨gc, 0, none⟩)] (.panicking (faultP p c)) w fun e u' w' =>
      e = .returned (.tuple #[]) ∧ u' = .panicking [{ v := .iface 125 (.agg #[.int .i64 p, .int .i64 c]), recovered := true }] ∧ Caught ga gc p c w w' := by
  have hta : ∀ w : World, (Instr.typeAssert (.iface 125 (.agg #[.int .i64 p, .int .i64 c])) 20 125 true).run Tryd.prog w = .ok (.tuple #[.agg #[.int .i64 p, .int .i64 c], .bool true]) w := fun _ => by kernel_rfl
  unfold faultP
  refine callsD_of_wpS Tryd.func103 rfl fun c₀ cs hu => ?_
  simp only [Tryd.ntmps103, List.size_toArray, List.length_cons, List.length_nil, Nat.reduceAdd, Nat.reduceSub, Array.replicate_succ, Array.replicate_zero, List.push_toArray, List.append_toArray, List.nil_append, List.cons_append]
  refine wpS_seq ?_
  refine wpS_region_recover (v := .iface 125 (.agg #[.int .i64 p, .int .i64 c])) (cs' := { c₀ with mode := .panicking [{ v := .iface 125 (.agg #[.int .i64 p, .int .i64 c]), recovered := true }] } :: cs) (by rintro ⟨a, w', h⟩; simp [Exit.thenS, bodyPostS] at h) (by rfl) (by rfl) (.inl (by simp [recoverD, hu])) ?_
  have hga : ga < w.heap.size := (Array.getElem?_eq_some_iff.1 ha).1
  have hgc : gc < w.heap.size := (Array.getElem?_eq_some_iff.1 hc).1
  have HA : Hid ((w.alloc (.cells #[.int .i64 p, .int .i64 c] 125)).heap[ga]? = some (.cells #[.int .i64 va] 3)) := Lib.hid (((below_one w (.cells #[.int .i64 p, .int .i64 c] 125)).block ga hga).trans ha)
  have HC : Hid ((w.alloc (.cells #[.int .i64 p, .int .i64 c] 125)).heap[gc]? = some (.cells #[.int .i64 vc] 3)) := Lib.hid (((below_one w (.cells #[.int .i64 p, .int .i64 c] 125)).block gc hgc).trans hc)
  have HF : Hid ((w.alloc (.cells #[.int .i64 p, .int .i64 c] 125)).heap[w.heap.size]? = some (.cells #[.int .i64 p, .int .i64 c] 125)) := Lib.hid (heap_alloc_new _ _)
  have B0 := Lib.hid (below_one w (.cells #[.int .i64 p, .int .i64 c] 125))
  have ca : (w.alloc (.cells #[.int .i64 p, .int .i64 c] 125)).cell? ⟨ga, 0, none⟩ = some (.int .i64 va) := by rw [cell_of_row _ _ _ _ _ _ HA.out]; rfl
  have cc : (w.alloc (.cells #[.int .i64 p, .int .i64 c] 125)).cell? ⟨gc, 0, none⟩ = some (.int .i64 vc) := by rw [cell_of_row _ _ _ _ _ _ HC.out]; rfl
  have cf0 : (w.alloc (.cells #[.int .i64 p, .int .i64 c] 125)).cell? ⟨w.heap.size, 0, none⟩ = some (.int .i64 p) := by rw [cell_of_row _ _ _ _ _ _ HF.out]; rfl
  have cf1 : (w.alloc (.cells #[.int .i64 p, .int .i64 c] 125)).cell? ⟨w.heap.size, 1, none⟩ = some (.int .i64 c) := by rw [cell_of_row _ _ _ _ _ _ HF.out]; rfl
  have fa := frozen_of_row _ ga 0 _ _ HA.out
  have fc := frozen_of_row _ gc 0 _ _ HC.out
  clear ha hc
  go_wp2
  dsimp only [Exit.thenS]
  refine wpS_of_wp ?_
  generalize w.alloc (.cells #[.int .i64 p, .int .i64 c] 125) = W at *
  have hla : ga < W.heap.size := (Array.getElem?_eq_some_iff.1 HA.out).1
  have hlc : gc < W.heap.size := (Array.getElem?_eq_some_iff.1 HC.out).1
  have na : ga ≠ w.heap.size := by omega
  have nc : gc ≠ w.heap.size := by omega
  have K : Hid (Caught ga gc p c w ((W.setCell ⟨ga, 0, none⟩ (.int .i64 p)).setCell ⟨gc, 0, none⟩ (.int .i64 c)).drew) := Lib.hid (by
    have e1 : (W.setCell ⟨ga, 0, none⟩ (.int .i64 p)).heap[ga]? = some (.cells #[.int .i64 p] 3) := heap_setCell_same W ga 0 _ _ (.int .i64 p) HA.out
    have e2 : (W.setCell ⟨ga, 0, none⟩ (.int .i64 p)).heap[gc]? = some (.cells #[.int .i64 vc] 3) := (Below.heap_setCell _ _ _ _ (by simpa using hne.symm)).trans HC.out
    have e3 : ((W.setCell ⟨ga, 0, none⟩ (.int .i64 p)).setCell ⟨gc, 0, none⟩ (.int .i64 c)).heap[gc]? = some (.cells #[.int .i64 c] 3) := heap_setCell_same _ gc 0 _ _ (.int .i64 c) e2
    have e4 : ((W.setCell ⟨ga, 0, none⟩ (.int .i64 p)).setCell ⟨gc, 0, none⟩ (.int .i64 c)).heap[ga]? = some (.cells #[.int .i64 p] 3) := (Below.heap_setCell _ _ _ _ (by simpa using hne)).trans e1
    refine ⟨e4, e3, fun g h1 h2 hl => ?_, ?_, B0.out.os, B0.out.tape, B0.out.output⟩
    · have : ((W.setCell ⟨ga, 0, none⟩ (.int .i64 p)).setCell ⟨gc, 0, none⟩ (.int .i64 c)).heap[g]? = W.heap[g]? := (Below.heap_setCell _ _ _ _ (by simpa using h2)).trans (Below.heap_setCell _ _ _ _ (by simpa using h1))
      exact this.trans (B0.out.block g hl)
    · have : ((W.setCell ⟨ga, 0, none⟩ (.int .i64 p)).setCell ⟨gc, 0, none⟩ (.int .i64 c)).heap.size = W.heap.size := by simp
      have h2 := B0.out.size
      show w.heap.size ≤ ((W.setCell ⟨ga, 0, none⟩ (.int .i64 p)).setCell ⟨gc, 0, none⟩ (.int .i64 c)).heap.size
      omega)
  go_wp2
  go_region
  all_goals exact ⟨rfl, _, rfl, _, results_none rfl _ _ _, rfl, rfl, K.out⟩

set_option maxHeartbeats 2000000 in
set_option maxRecDepth 100000 in
theorem strict_idle (ga gc : Nat) (w : World) :
    CallsD Tryd.prog 103 #[.pointer (some ⟨ga, 0, none⟩), .pointer (some ⟨gc, 0, none⟩)] .returning w fun e u' w' => e = .returned (.tuple #[]) ∧ u' = .returning ∧ Below w.heap.size w w' := by
  have hta : ∀ w : World, (Instr.typeAssert .nilIface 20 125 true).run Tryd.prog w = .ok (.tuple #[.agg #[.int .i64 0, .int .i64 0], .bool false]) w := fun _ => by kernel_rfl
  have B0 := Lib.hid (below_one w (.cells #[.int .i64 0, .int .i64 0] 125))
  refine callsD_of_wpS Tryd.func103 rfl fun c₀ cs hu => ?_
  simp only [Tryd.ntmps103, List.size_toArray, List.length_cons, List.length_nil, Nat.reduceAdd, Nat.reduceSub, Array.replicate_succ, Array.replicate_zero, List.push_toArray, List.append_toArray, List.nil_append, List.cons_append]
  refine wpS_seq ?_
  refine wpS_region_recover (v := .nilIface) (cs' := c₀ :: cs) (by rintro ⟨a, w', h⟩; simp [Exit.thenS, bodyPostS] at h) (by rfl) (by rfl) (.inr ⟨by simp [recoverD, hu], rfl, rfl⟩) ?_
  go_wp2
  dsimp only [Exit.thenS]
  refine wpS_of_wp ?_
  go_wp2
  refine ⟨rfl, .returning, ?_, _, results_none rfl _ _ _, rfl, rfl, B0.out⟩
  cases c₀
  simp_all

end Go.Proofs.YtplejoojleogcaaDoor

namespace Go.Proofs.YtplejoojleogcaaDoor
open Go.RowKit Go.Sort

/-- What a strict reading leaves. -/
def SyDone (n : Int) (s : ByteArray) (b : Nat) (w : World) (e : Ending) (w' : World) : Prop := e = .returned (.tuple #[.int .i64 (decP n s).p, .int .i64 (decP n s).c]) ∧ ∃ x l, RSt w' b w.heap.size n x l (decP n s).z ∧ Only b w w'
theorem RSt.lowB {w : World} {b C C' : Nat} {n : Int} {x : St} {l : Value} {zs : List Int} (h : RSt w b C n x l zs) (hC : C' ≤ C) : RSt w b C' n x l zs := by
  obtain ⟨m, h1, h2, h3⟩ := h
  refine ⟨m, h1, h2.imp id ?_, h3.low hC⟩
  rintro ⟨mb, h4, h5⟩
  exact ⟨mb, h4, fun w' hw => (h5 w' fun g o hg hr hl ho => hw g o (by omega) hr hl ho).low hC⟩

theorem RSt.moved {w w' : World} {b C : Nat} {n : Int} {x : St} {l : Value} {zs : List Int} (h : RSt w b C n x l zs) (hk : ∀ g o, (g = b ∨ C ≤ g) → w.heap[g]? = some o → w'.heap[g]? = some o) : RSt w' b C n x l zs := by
  obtain ⟨m, h1, h2, h3⟩ := h
  refine ⟨m, hk b _ (.inl rfl) h1, h2.imp id ?_, ?_⟩
  · rintro ⟨mb, h4, h5⟩
    exact ⟨mb, h4, fun w'' hw => h5 w'' fun g o hg hr hl ho => hw g o hg hr (hk g o (.inr hg) hl) ho⟩
  · refine ⟨h3.1, ?_⟩
    rcases h3.2 with h | ⟨g, cap, cur, a, b', c, d⟩
    · exact .inl h
    · exact .inr ⟨g, cap, cur, a, b', hk g _ (.inr b') c, d⟩
theorem strict_done {n : Int} {s : ByteArray} {b : Nat} {w W0 w2 w5 : World} {x : St} {l : Value} {z : List Int} {p c : Int} (hz : decP n s = ⟨z, p, c⟩) (hb : b < w.heap.size) (B0 : Below w.heap.size w W0) (hs : W0.heap.size = w.heap.size + 2) (hS : RSt w2 b (W0.heap.size + 2) n x l z) (hO : Only b W0 w2)
    (hk : ∀ g, g ≠ w.heap.size → g ≠ w.heap.size + 1 → g < w2.heap.size → w5.heap[g]? = w2.heap[g]?) (h1 : w2.heap.size ≤ w5.heap.size) (h2 : w5.os = w2.os) (h3 : w5.tape = w2.tape) (h4 : w5.output = w2.output) : SyDone n s b w (.returned (.tuple #[.int .i64 p, .int .i64 c])) w5 := by
  have o2 := (only_below hb B0).trans hO
  have hz1 := hO.1.size
  refine ⟨by rw [hz], x, l, ?_, ⟨h2.trans o2.1.os, h3.trans o2.1.tape, h4.trans o2.1.output, Nat.le_trans o2.1.size h1, fun k hk' => ?_⟩, fun g hg hl => ?_⟩
  · rw [hz]
    refine (hS.moved fun g o hg hl => ?_).lowB (show w.heap.size ≤ W0.heap.size + 2 by omega)
    have hgl := (Array.getElem?_eq_some_iff.1 hl).1
    rw [hk g (by omega) (by omega) hgl]
    exact hl
  · rw [hk k (by omega) (by omega) (by omega)]
    exact o2.1.block k hk'
  · rw [hk g (by omega) (by omega) (by omega)]
    exact o2.2 g hg hl

set_option maxHeartbeats 2000000 in
set_option maxRecDepth 100000 in
theorem impl_strictly (n : Int) (s : ByteArray) (b : Nat) (w : World) (h : RdAt w b n (.map none) (startP n) (.slice none 0 0)) (hT : ∀ W, Only b w W → TabM W) (hn : proB n = true) (hs : s.size ≤ 4096) :
    Calls Tryd.prog 62 #[.pointer (some ⟨b, 0, none⟩), .string s] w (SyDone n s b w) := by
  have hmf : ∀ (fn : Fn) (first cap : Array Value) (w : World), (Instr.makeFunc fn first cap).run Tryd.prog w = .ok (.func fn first cap) w := fun _ _ _ _ => rfl
  have hbl : b < w.heap.size := h.lt
  have B0 := Lib.hid (below_two w (.cells #[.int .i64 0] 3) (.cells #[.int .i64 1] 3))
  have HRd := Lib.hid (impl_readS n s b ((w.alloc (.cells #[.int .i64 0] 3)).alloc (.cells #[.int .i64 1] 3)) (h.keep B0.out) (fun W o => hT W ((only_below hbl B0.out).trans o)) hn hs)
  have GA : Hid (((w.alloc (.cells #[.int .i64 0] 3)).alloc (.cells #[.int .i64 1] 3)).heap[w.heap.size]? = some (.cells #[.int .i64 0] 3)) := Lib.hid (heap_alloc2_old _ _ _)
  have GC : Hid (((w.alloc (.cells #[.int .i64 0] 3)).alloc (.cells #[.int .i64 1] 3)).heap[w.heap.size + 1]? = some (.cells #[.int .i64 1] 3)) := Lib.hid (heap_alloc2_new _ _ _)
  have HsB : Hid (((w.alloc (.cells #[.int .i64 0] 3)).alloc (.cells #[.int .i64 1] 3)).heap.size = w.heap.size + 2) := Lib.hid (by simp)
  have HEc := Lib.hid (fun x m l W hR hx => impl_endCode n x m l b W hR hx)
  clear h hT
  go_enter_defers Tryd.func62, Tryd.ntmps62
  go_wp2_with fail
  refine HRd.out.mono ?_
  generalize (w.alloc (.cells #[.int .i64 0] 3)).alloc (.cells #[.int .i64 1] 3) = W0 at *
  rintro e w2 (⟨rfl, x, l, z, hz, hx, hS, hO⟩ | ⟨p, c, rfl, x, l, z, hz, hS, hO⟩)
  · have hsz := HsB.out
    have GA2 : w2.heap[w.heap.size]? = some (.cells #[.int .i64 0] 3) := (hO.2 _ (by omega) (by omega)).trans GA.out
    have GC2 : w2.heap[w.heap.size + 1]? = some (.cells #[.int .i64 1] 3) := (hO.2 _ (by omega) (by omega)).trans GC.out
    have HS := Lib.hid hS
    obtain ⟨m, hm, _⟩ := hS
    have HE := Lib.hid (HEc.out x m l w2 hm hx)
    have hsz1 := hO.1.size
    have hl1 : w.heap.size + 1 < w2.heap.size := by omega
    clear hsz hm
    go_wp2_with fail
    refine HE.out.mono ?_
    rintro e w3 ⟨rfl, q, rfl⟩
    have GA3 : Hid ((w2.drewN q).heap[w.heap.size]? = some (.cells #[.int .i64 0] 3)) := Lib.hid GA2
    have GC3 : Hid ((w2.drewN q).heap[w.heap.size + 1]? = some (.cells #[.int .i64 1] 3)) := Lib.hid GC2
    have HQ : Hid ((∀ g : Nat, (w2.drewN q).heap[g]? = w2.heap[g]?) ∧ (w2.drewN q).heap.size = w2.heap.size ∧ (w2.drewN q).os = w2.os ∧ (w2.drewN q).tape = w2.tape ∧ (w2.drewN q).output = w2.output) := Lib.hid ⟨fun _ => rfl, rfl, rfl, rfl, rfl⟩
    have hl3 : w.heap.size + 1 < (w2.drewN q).heap.size := hl1
    generalize w2.drewN q = W3 at *
    have a0 : W3.cell? ⟨w.heap.size, 0, none⟩ = some (.int .i64 0) := by rw [cell_of_row _ _ _ _ _ _ GA3.out]; rfl
    have c0 : W3.cell? ⟨w.heap.size + 1, 0, none⟩ = some (.int .i64 1) := by rw [cell_of_row _ _ _ _ _ _ GC3.out]; rfl
    have fa := frozen_of_row _ w.heap.size 0 _ _ GA3.out
    have fc := frozen_of_row _ (w.heap.size + 1) 0 _ _ GC3.out
    have ha0 : w.heap.size < W3.heap.size := by omega
    have e1 : Hid (((W3.setCell ⟨w.heap.size, 0, none⟩ (.int .i64 (s.size : Int))).setCell ⟨w.heap.size + 1, 0, none⟩ (.int .i64 (endC n x))).heap[w.heap.size]? = some (.cells #[.int .i64 (s.size : Int)] 3)) := Lib.hid ((Below.heap_setCell _ _ _ _ (by simp)).trans (heap_setCell_same W3 w.heap.size 0 _ _ (.int .i64 (s.size : Int)) GA3.out))
    have e2 : Hid (((W3.setCell ⟨w.heap.size, 0, none⟩ (.int .i64 (s.size : Int))).setCell ⟨w.heap.size + 1, 0, none⟩ (.int .i64 (endC n x))).heap[w.heap.size + 1]? = some (.cells #[.int .i64 (endC n x)] 3)) := Lib.hid (heap_setCell_same _ (w.heap.size + 1) 0 _ _ (.int .i64 (endC n x)) ((Below.heap_setCell _ _ _ _ (by simp)).trans GC3.out))
    have e3 : Hid (∀ g : Nat, g ≠ w.heap.size → g ≠ w.heap.size + 1 → ((W3.setCell ⟨w.heap.size, 0, none⟩ (.int .i64 (s.size : Int))).setCell ⟨w.heap.size + 1, 0, none⟩ (.int .i64 (endC n x))).heap[g]? = W3.heap[g]?) := Lib.hid (fun g h1 h2 => (Below.heap_setCell _ _ _ _ (by simpa using h2)).trans (Below.heap_setCell _ _ _ _ (by simpa using h1)))
    have e4 : Hid (((W3.setCell ⟨w.heap.size, 0, none⟩ (.int .i64 (s.size : Int))).setCell ⟨w.heap.size + 1, 0, none⟩ (.int .i64 (endC n x))).heap.size = W3.heap.size ∧ ((W3.setCell ⟨w.heap.size, 0, none⟩ (.int .i64 (s.size : Int))).setCell ⟨w.heap.size + 1, 0, none⟩ (.int .i64 (endC n x))).os = W3.os ∧ ((W3.setCell ⟨w.heap.size, 0, none⟩ (.int .i64 (s.size : Int))).setCell ⟨w.heap.size + 1, 0, none⟩ (.int .i64 (endC n x))).tape = W3.tape ∧ ((W3.setCell ⟨w.heap.size, 0, none⟩ (.int .i64 (s.size : Int))).setCell ⟨w.heap.size + 1, 0, none⟩ (.int .i64 (endC n x))).output = W3.output) := Lib.hid ⟨by simp, rfl, rfl, rfl⟩
    go_wp2
    refine leaves_cons (f := 103) (args := #[.pointer (some ⟨w.heap.size, 0, none⟩), .pointer (some ⟨w.heap.size + 1, 0, none⟩)]) (by simp) (by simp [go_sem]) ?_
    refine (strict_idle w.heap.size (w.heap.size + 1) _).mono ?_
    generalize ((W3.setCell ⟨w.heap.size, 0, none⟩ (.int .i64 (s.size : Int))).setCell ⟨w.heap.size + 1, 0, none⟩ (.int .i64 (endC n x))) = W4 at *
    rintro e u' w5 ⟨rfl, rfl, b5⟩
    have s4 := e4.out.1
    have s3 := HQ.out.2.1
    have c1 : w5.cell? ⟨w.heap.size, 0, none⟩ = some (.int .i64 (s.size : Int)) := by rw [cell_of_row _ _ _ _ _ _ ((b5.block _ (by omega)).trans e1.out)]; rfl
    have c2 : w5.cell? ⟨w.heap.size + 1, 0, none⟩ = some (.int .i64 (endC n x)) := by rw [cell_of_row _ _ _ _ _ _ ((b5.block _ (by omega)).trans e2.out)]; rfl
    refine ⟨.tuple #[.int .i64 (s.size : Int), .int .i64 (endC n x)], ?_, ?_⟩
    · simp [results, Tryd.results62, go_sem, c1, c2]
    · exact strict_done hz hbl B0.out HsB.out HS.out hO (fun g h1 h2 hl => by rw [b5.block g (by omega), e3.out g h1 h2, HQ.out.1 g]) (by have := b5.size; omega) (b5.os.trans (e4.out.2.1.trans HQ.out.2.2.1)) (b5.tape.trans (e4.out.2.2.1.trans HQ.out.2.2.2.1)) (b5.output.trans (e4.out.2.2.2.trans HQ.out.2.2.2.2))
  · have hsz := HsB.out
    have GA2 : w2.heap[w.heap.size]? = some (.cells #[.int .i64 0] 3) := (hO.2 _ (by omega) (by omega)).trans GA.out
    have GC2 : w2.heap[w.heap.size + 1]? = some (.cells #[.int .i64 1] 3) := (hO.2 _ (by omega) (by omega)).trans GC.out
    refine leaves_cons (f := 103) (args := #[.pointer (some ⟨w.heap.size, 0, none⟩), .pointer (some ⟨w.heap.size + 1, 0, none⟩)]) (by simp) (by simp [go_sem]) ?_
    refine (strict_catch w.heap.size (w.heap.size + 1) 0 1 p c w2 GA2 GC2 (by omega)).mono ?_
    rintro e u' w5 ⟨rfl, rfl, hK⟩
    have c1 : w5.cell? ⟨w.heap.size, 0, none⟩ = some (.int .i64 p) := by rw [cell_of_row _ _ _ _ _ _ hK.1]; rfl
    have c2 : w5.cell? ⟨w.heap.size + 1, 0, none⟩ = some (.int .i64 c) := by rw [cell_of_row _ _ _ _ _ _ hK.2.1]; rfl
    refine ⟨.tuple #[.int .i64 p, .int .i64 c], ?_, ?_⟩
    · simp [results, Tryd.results62, go_sem, c1, c2]
    · exact strict_done hz hbl B0.out HsB.out hS hO (fun g h1 h2 hl => hK.2.2.1 g h1 h2 hl) hK.2.2.2.1 hK.2.2.2.2.1 hK.2.2.2.2.2.1 hK.2.2.2.2.2.2

end Go.Proofs.YtplejoojleogcaaDoor

namespace Go.Proofs.YtplejoojleogcaaDoor
open Go.RowKit Go.Sort

def DecodeDone (n : Int) (s : ByteArray) (w : World) (e : Ending) (w' : World) : Prop := ∃ v, e = .returned (.tuple #[v, .int .i64 (dcD n s).p, .int .i64 (dcD n s).c]) ∧ Own .i64 3 w' w.heap.size v (dcD n s).z ∧ Below w.heap.size w w'
def vtB (n : Int) (s : ByteArray) : Bool := decide (askC n s = 0) && ((decP n s).c == 0)
def ValidTextDone (n : Int) (s : ByteArray) (w : World) (e : Ending) (w' : World) : Prop := e = .returned (.tuple #[.bool (vtB n s), .int .i64 (askC n s)]) ∧ Below w.heap.size w w'
def guP (n : Int) (s : ByteArray) : Int := if askC n s = 0 then (decP n s).p else 0
def GoodUpToDone (n : Int) (s : ByteArray) (w : World) (e : Ending) (w' : World) : Prop := e = .returned (.tuple #[.int .i64 (guP n s), .int .i64 (askC n s)]) ∧ Below w.heap.size w w'
theorem vt_ok {n : Int} {s : ByteArray} {d : Dc} (hc : askC n s = 0) (hd : decP n s = d) : vtB n s = (d.c == 0) := by rw [vtB, hd, hc]; rfl
theorem vt_bad {n : Int} {s : ByteArray} (hc : ¬ askC n s = 0) : vtB n s = false := by rw [vtB, decide_eq_false hc]; rfl
theorem gu_ok {n : Int} {s : ByteArray} {d : Dc} (hc : askC n s = 0) (hd : decP n s = d) : guP n s = d.p := by rw [guP, if_pos hc, hd]
theorem gu_bad {n : Int} {s : ByteArray} (hc : ¬ askC n s = 0) : guP n s = 0 := by rw [guP, if_neg hc]
theorem dc_ok {n : Int} {s : ByteArray} {d : Dc} (hc : askC n s = 0) (hd : decP n s = d) : dcD n s = d := by rw [dcD, if_pos hc, hd]
theorem dc_bad {n : Int} {s : ByteArray} (hc : ¬ askC n s = 0) : dcD n s = ⟨[], 0, askC n s⟩ := by rw [dcD, if_neg hc]

end Go.Proofs.YtplejoojleogcaaDoor

namespace Go.Proofs.YtplejoojleogcaaDoor
open Go.RowKit Go.Sort

set_option maxHeartbeats 2000000 in
set_option maxRecDepth 100000 in
theorem impl_ValidText (n : Int) (s : ByteArray) (w : World) (ht : TabM w) : Calls Tryd.prog 30 #[.int .i64 n, .string s] w (ValidTextDone n s w) := by
  have HA := Lib.hid (fun w => impl_readingCode n s w)
  by_cases hc : askC n s = 0
  · have HC := Lib.hid hc
    have hsz : s.size ≤ 4096 ∧ proB n = true := by
      unfold askC at hc
      split at hc
      · cases hc
      · split at hc
        · split at hc
          · cases hc
          · exact ⟨by omega, by assumption⟩
        · cases hc
    have HR := Lib.hid (fun w ht => impl_readingOf n w ht hsz.2)
    have HW := Lib.hid (fun b w h hT => impl_strictly n s b w h hT hsz.2 hsz.1)
    have HT := Lib.hid ht
    rw [hc] at HA
    unfold rdV at HR
    unfold SyDone at HW
    clear hc hsz ht
    obtain ⟨d, hd⟩ : ∃ d, decP n s = d := ⟨_, rfl⟩
    have HD := Lib.hid hd
    rw [hd] at HW
    clear hd
    go_enter Tryd.func30, Tryd.ntmps30
    go_wp2_with fail
    refine (HA.out _).mono ?_
    rintro e w0 ⟨rfl, rfl⟩
    go_wp2_with fail
    refine (HR.out _ HT.out.1).mono ?_
    rintro e w1 ⟨rfl, b1⟩
    have R1 : Hid (RdAt (w1.alloc (.cells #[.int .i64 n, .string (prName n), .string (prHead n), .slice none 0 0, .bool (prRight n), .bool (prShifts n), .bool (prSingle n), .bool (prReset n), .bool (prClear n), (.map none), .int .i64 (startP n).g0, .int .i64 (startP n).g1, .int .i64 (startP n).g2, .int .i64 (startP n).g3, .int .i64 (startP n).l, .int .i64 (startP n).s, .int .i64 (startP n).d, (.slice none 0 0)] 84)) w1.heap.size n (.map none) (startP n) (.slice none 0 0)) := Lib.hid (heap_alloc_new _ _)
    have B1 : Hid (Below w.heap.size w (w1.alloc (.cells #[.int .i64 n, .string (prName n), .string (prHead n), .slice none 0 0, .bool (prRight n), .bool (prShifts n), .bool (prSingle n), .bool (prReset n), .bool (prClear n), (.map none), .int .i64 (startP n).g0, .int .i64 (startP n).g1, .int .i64 (startP n).g2, .int .i64 (startP n).g3, .int .i64 (startP n).l, .int .i64 (startP n).s, .int .i64 (startP n).d, (.slice none 0 0)] 84))) := Lib.hid (b1.alloc b1.size _)
    have hw1 : w.heap.size ≤ w1.heap.size := b1.size
    clear b1
    go_wp2_with fail
    generalize w1.alloc (.cells #[.int .i64 n, .string (prName n), .string (prHead n), .slice none 0 0, .bool (prRight n), .bool (prShifts n), .bool (prSingle n), .bool (prReset n), .bool (prClear n), (.map none), .int .i64 (startP n).g0, .int .i64 (startP n).g1, .int .i64 (startP n).g2, .int .i64 (startP n).g3, .int .i64 (startP n).l, .int .i64 (startP n).s, .int .i64 (startP n).d, (.slice none 0 0)] 84) = W1 at *
    refine (HW.out w1.heap.size W1 R1.out (fun W o => HT.out.keep (B1.out.trans (o.1.mono hw1)))).mono ?_
    rintro e w2 ⟨rfl, x, l, hS, hO⟩
    have B2 : Hid (Below w.heap.size w w2) := Lib.hid (B1.out.trans (hO.1.mono hw1))
    have hC2 : w.heap.size ≤ W1.heap.size := B1.out.size
    obtain ⟨m, hm, _, hOwn⟩ := hS
    have HO := Lib.hid hOwn
    have ⟨_, _, _, _, _, _, _, _, _, c17⟩ := hm.cells
    clear hO hm hOwn
    go_wp2
    go_ret2
    exact ⟨by rw [vt_ok HC.out HD.out, HC.out]; rfl, B2.out⟩
  · obtain ⟨cc, hcc⟩ : ∃ cc, askC n s = cc := ⟨_, rfl⟩
    have HCC := Lib.hid hcc
    have HN := Lib.hid hc
    have ec : (cc != 0) = true := by rw [← hcc]; simpa using hc
    rw [hcc] at HA
    clear hc hcc
    go_enter Tryd.func30, Tryd.ntmps30
    go_wp2_with fail
    refine (HA.out _).mono ?_
    rintro e w1 ⟨rfl, rfl⟩
    go_wp2
    go_ret2
    exact ⟨by rw [vt_bad HN.out, HCC.out]; rfl, Below.refl _ _⟩

set_option maxHeartbeats 2000000 in
set_option maxRecDepth 100000 in
theorem impl_GoodUpTo (n : Int) (s : ByteArray) (w : World) (ht : TabM w) : Calls Tryd.prog 32 #[.int .i64 n, .string s] w (GoodUpToDone n s w) := by
  have HA := Lib.hid (fun w => impl_readingCode n s w)
  by_cases hc : askC n s = 0
  · have HC := Lib.hid hc
    have hsz : s.size ≤ 4096 ∧ proB n = true := by
      unfold askC at hc
      split at hc
      · cases hc
      · split at hc
        · split at hc
          · cases hc
          · exact ⟨by omega, by assumption⟩
        · cases hc
    have HR := Lib.hid (fun w ht => impl_readingOf n w ht hsz.2)
    have HW := Lib.hid (fun b w h hT => impl_strictly n s b w h hT hsz.2 hsz.1)
    have HT := Lib.hid ht
    rw [hc] at HA
    unfold rdV at HR
    unfold SyDone at HW
    clear hc hsz ht
    obtain ⟨d, hd⟩ : ∃ d, decP n s = d := ⟨_, rfl⟩
    have HD := Lib.hid hd
    rw [hd] at HW
    clear hd
    go_enter Tryd.func32, Tryd.ntmps32
    go_wp2_with fail
    refine (HA.out _).mono ?_
    rintro e w0 ⟨rfl, rfl⟩
    go_wp2_with fail
    refine (HR.out _ HT.out.1).mono ?_
    rintro e w1 ⟨rfl, b1⟩
    have R1 : Hid (RdAt (w1.alloc (.cells #[.int .i64 n, .string (prName n), .string (prHead n), .slice none 0 0, .bool (prRight n), .bool (prShifts n), .bool (prSingle n), .bool (prReset n), .bool (prClear n), (.map none), .int .i64 (startP n).g0, .int .i64 (startP n).g1, .int .i64 (startP n).g2, .int .i64 (startP n).g3, .int .i64 (startP n).l, .int .i64 (startP n).s, .int .i64 (startP n).d, (.slice none 0 0)] 84)) w1.heap.size n (.map none) (startP n) (.slice none 0 0)) := Lib.hid (heap_alloc_new _ _)
    have B1 : Hid (Below w.heap.size w (w1.alloc (.cells #[.int .i64 n, .string (prName n), .string (prHead n), .slice none 0 0, .bool (prRight n), .bool (prShifts n), .bool (prSingle n), .bool (prReset n), .bool (prClear n), (.map none), .int .i64 (startP n).g0, .int .i64 (startP n).g1, .int .i64 (startP n).g2, .int .i64 (startP n).g3, .int .i64 (startP n).l, .int .i64 (startP n).s, .int .i64 (startP n).d, (.slice none 0 0)] 84))) := Lib.hid (b1.alloc b1.size _)
    have hw1 : w.heap.size ≤ w1.heap.size := b1.size
    clear b1
    go_wp2_with fail
    generalize w1.alloc (.cells #[.int .i64 n, .string (prName n), .string (prHead n), .slice none 0 0, .bool (prRight n), .bool (prShifts n), .bool (prSingle n), .bool (prReset n), .bool (prClear n), (.map none), .int .i64 (startP n).g0, .int .i64 (startP n).g1, .int .i64 (startP n).g2, .int .i64 (startP n).g3, .int .i64 (startP n).l, .int .i64 (startP n).s, .int .i64 (startP n).d, (.slice none 0 0)] 84) = W1 at *
    refine (HW.out w1.heap.size W1 R1.out (fun W o => HT.out.keep (B1.out.trans (o.1.mono hw1)))).mono ?_
    rintro e w2 ⟨rfl, x, l, hS, hO⟩
    have B2 : Hid (Below w.heap.size w w2) := Lib.hid (B1.out.trans (hO.1.mono hw1))
    have hC2 : w.heap.size ≤ W1.heap.size := B1.out.size
    obtain ⟨m, hm, _, hOwn⟩ := hS
    have HO := Lib.hid hOwn
    have ⟨_, _, _, _, _, _, _, _, _, c17⟩ := hm.cells
    clear hO hm hOwn
    go_wp2
    go_ret2
    exact ⟨by rw [gu_ok HC.out HD.out, HC.out]; rfl, B2.out⟩
  · obtain ⟨cc, hcc⟩ : ∃ cc, askC n s = cc := ⟨_, rfl⟩
    have HCC := Lib.hid hcc
    have HN := Lib.hid hc
    have ec : (cc != 0) = true := by rw [← hcc]; simpa using hc
    rw [hcc] at HA
    clear hc hcc
    go_enter Tryd.func32, Tryd.ntmps32
    go_wp2_with fail
    refine (HA.out _).mono ?_
    rintro e w1 ⟨rfl, rfl⟩
    go_wp2
    go_ret2
    exact ⟨by rw [gu_bad HN.out, HCC.out]; rfl, Below.refl _ _⟩

end Go.Proofs.YtplejoojleogcaaDoor
