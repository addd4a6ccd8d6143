/- The walk of 'FnExactLinesOf': the law returns true at every argument, and changes nothing that was there. -/
import Derived.Test.YtdckjhobikfggaaLsC
namespace Go.Proofs.Ytdckjhobikfggaa.fnExactLinesOf
open Go.RowKit

theorem offs_take (L : List (List Int)) : ∀ k, k ≤ L.length → offs (fun k => L.getD k []) k = numL (L.take k)
  | 0, _ => rfl
  | k + 1, h => by
    have hk : k < L.length := by omega
    rw [offs, offs_take L k (by omega), List.take_succ_eq_append_getElem hk, numL_app]
    simp [List.getD, hk]
theorem lns_stay {w w' : World} {B : Nat} {v : Value} {L : List (List Int)} {f : Nat → Value} (h : Lns w B v L f) (hk : ∀ i, B ≤ i → i < w.heap.size → w'.heap[i]? = w.heap[i]?) : Lns w' B v L f :=
  ⟨h.1.stay fun i hi hl => hk i (World.ownsRow.lt h.1 i hi).1 hl, fun k hk' => (h.2.1 k hk').stay fun i hi hl => hk i (World.ownsRow.lt (h.2.1 k hk') i hi).1 hl, h.2.2⟩

set_option maxHeartbeats 4000000 in
set_option maxRecDepth 100000 in
theorem walk (a : Option Addr) (len cap : Nat) (zs : List Int) (w : World) (h : IsRow .i64 w a len cap zs) : Calls Try.prog 4 #[.slice a len cap] w fun e w' => e = .returned (.bool true) ∧ Below w.heap.size w w' := by
  have hi := h.ints
  have ⟨hl, hm⟩ := h.length
  unfold maxLen at hm
  generalize zs.take len = ys at *
  by_cases hb : 1048576 < len
  · clear hi h hl
    go_enter Try.func4, Try.ntmps4
    go_wp2
    go_ret
    exact ⟨rfl, Below.refl _ _⟩
  · have HI := Lib.hid hi
    have HL : ys.length ≤ 1048576 := by omega
    have HS := Lib.hid (fun v w h => spec_LinesOf v ys w h HL)
    have HP := Lib.hid (fun v B w h => impl_LinesOf v ys B w h HL)
    have ⟨hn1, hn2⟩ := linesZ_num ys
    unfold LnDone at HS HP
    generalize linesZ ys = X at *
    generalize linesC ys = xc at *
    have HZ : Hid (∀ k, ((fun k => X.getD k []) k).length ≤ 1048576) := Lib.hid (fun k => by have := numL_at X k; dsimp only; omega)
    have HO : Hid (∀ k, k ≤ X.length → offs (fun k => X.getD k []) k ≤ 1048576) := Lib.hid (fun k hk => by rw [offs_take X k hk]; have := numL_take X k; omega)
    have hN : X.length ≤ 1048576 := by omega
    have HEQ : Hid (∀ (a a' : Option Addr) (c c' : Nat) (f f' : Nat → Value) (B B' : Nat) (w : World), Lns w B (.slice a X.length c) X f → Lns w B' (.slice a' X.length c') X f' → Calls Try.prog 13 #[.slice a X.length c, .slice a' X.length c'] w fun e w' => e = .returned (.bool true) ∧ ∃ n, w' = w.drewN n) := Lib.hid (fun a a' c c' f f' B B' w h1 h2 =>
      laws_eqIntSS a a' c c' X.length f f' (fun k => X.getD k []) B B' w h1.1 h2.1 (fun k hk => (h1.2.1 k hk).ints) (fun k hk => (h2.2.1 k hk).ints) HZ.out hN)
    have HM : Hid (∀ (a : Option Addr) (c : Nat) (f : Nat → Value) (B : Nat) (w : World), Lns w B (.slice a X.length c) X f → B ≤ w.heap.size → _) := Lib.hid (fun a c f B w (h1 : Lns w B (.slice a X.length c) X f) (hB : B ≤ w.heap.size) => laws_markIntSS a c X.length f (fun k => X.getD k []) B w h1.1 h1.2.1 h1.apart HZ.out HO.out hN hB)
    have HH := Lib.hid (fun a c f B w (h1 : OwnV w B (.slice a X.length c) ((List.range X.length).map f)) (h2 : ∀ k, k < X.length → Own .i64 3 w B (f k) (marks (1 + (offs (fun k => X.getD k []) k : Int)) (X.getD k []).length)) => laws_heldIntSS a c X.length f (fun k => X.getD k []) B w h1 (fun k hk => (h2 k hk).ints) HZ.out HO.out hN)
    have hoff := HO.out X.length (Nat.le_refl _)
    have v3 : (0 : Int) ≤ 1 + (offs (fun k => X.getD k []) X.length : Int) := by omega
    have hd : decide (ys = ys) = true := by simp
    have hMk := Lib.hid (fun v B w (h : Own .i64 3 w B v ys) => laws_markIntS2 v ys 1 B w h HL (by decide) (by decide))
    have v4 : (0 : Int) ≤ 1 + (ys.length : Int) := by omega
    generalize (offs (fun k => X.getD k []) X.length : Int) = of at *
    clear hi h hl HZ HO hn1 hoff
    go_enter Try.func4, Try.ntmps4
    go_wp2_with fail
    refine (laws_toIntS _ ys _ HI.out HL).mono ?_
    rintro e w1 ⟨v1, rfl, o1, b1⟩
    go_wp2_with fail
    refine (HS.out _ _ o1.ints).mono ?_
    rintro e w2 ⟨a1, c1, f1, rfl, l1, b2⟩
    have B2 := Lib.hid (b1.trans (b2.mono b1.size))
    have L1 := Lib.hid l1
    clear o1 b1 b2 l1
    go_wp2_with fail
    refine (laws_toIntS _ ys _ (HI.out.keep B2.out) HL).mono ?_
    rintro e w3 ⟨v3', rfl, o3, b3⟩
    have O3 := Lib.hid o3
    have X3 := Lib.hid b3
    clear o3 b3
    go_wp2_with fail
    refine (HP.out _ _ _ O3.out).mono ?_
    rintro e w4 ⟨a2, c2, f2, rfl, l2, b4⟩
    have X4 : Hid (Below w2.heap.size w2 w4) := Lib.hid (X3.out.trans (b4.mono X3.out.size))
    have O4 := Lib.hid (O3.out.all b4)
    have L2 := Lib.hid l2
    have hw3 : w3.heap.size ≤ w4.heap.size := b4.size
    have hlt3 : Hid (∀ i, v3'.ownBlock = some i → i < w3.heap.size) := Lib.hid (fun i hi => (World.ownsRow.lt O3.out i hi).2)
    clear l2 b4 O3
    go_wp2_with fail
    refine (HEQ.out a2 a1 c2 c1 f2 f1 _ _ _ L2.out (L1.out.all X4.out)).mono ?_
    rintro e w5 ⟨rfl, q5, rfl⟩
    have X5 : Hid (Below w2.heap.size w2 (w4.drewN q5)) := Lib.hid (below_drewN X4.out q5)
    have O5 := Lib.hid (O4.out.all (below_drewN (Below.refl _ _) q5))
    have L5 := Lib.hid (L2.out.all (below_drewN (Below.refl _ _) q5))
    have hw5 : w3.heap.size ≤ (w4.drewN q5).heap.size := hw3
    clear X4 O4 L2 hw3
    generalize w4.drewN q5 = W5 at *
    go_wp2_with fail
    refine (laws_toIntS _ ys _ (HI.out.keep (B2.out.trans (X5.out.mono B2.out.size))) HL).mono ?_
    rintro e w6 ⟨v6, rfl, o6, b6⟩
    have X6 : Hid (Below w2.heap.size w2 w6) := Lib.hid (X5.out.trans (b6.mono X5.out.size))
    have O6 := Lib.hid (O5.out.all b6)
    have L6 := Lib.hid (L5.out.all b6)
    have hw6 : w3.heap.size ≤ w6.heap.size := Nat.le_trans hw5 b6.size
    clear X5 O5 L5 hw5 b6
    go_wp2_with fail
    refine (laws_eqIntS _ _ ys ys _ O6.out.ints o6.ints (by omega) (by omega)).mono ?_
    rintro e w7 ⟨rfl, q7, rfl⟩
    have X7 : Hid (Below w2.heap.size w2 (w6.drewN q7)) := Lib.hid (below_drewN X6.out q7)
    have O7 := Lib.hid (O6.out.all (below_drewN (Below.refl _ _) q7))
    have L7 := Lib.hid (L6.out.all (below_drewN (Below.refl _ _) q7))
    have hw7 : w3.heap.size ≤ (w6.drewN q7).heap.size := hw6
    clear X6 O6 L6 hw6 o6
    generalize w6.drewN q7 = W7 at *
    go_wp2_with fail
    refine (hMk.out _ _ _ O7.out).mono ?_
    rintro e w8 ⟨rfl, o8, b8, k8⟩
    have X8 : Hid (Below w2.heap.size w2 w8) := Lib.hid (X7.out.trans b8)
    have L8 : Hid (Lns w8 w3.heap.size (.slice a2 X.length c2) X f2) := Lib.hid (lns_stay L7.out fun i hi hl => k8 i (fun he => by have := hlt3.out i he; omega) hl)
    have hw8 : w3.heap.size ≤ w8.heap.size := Nat.le_trans hw7 b8.size
    clear X7 O7 L7 hw7 o8 b8 k8
    go_wp2_with fail
    refine (HEQ.out a2 a1 c2 c1 f2 f1 _ _ _ L8.out (L1.out.all X8.out)).mono ?_
    rintro e w9 ⟨rfl, q9, rfl⟩
    have X9 : Hid (Below w2.heap.size w2 (w8.drewN q9)) := Lib.hid (below_drewN X8.out q9)
    have L9 := Lib.hid (L8.out.all (below_drewN (Below.refl _ _) q9))
    have hw9 : w3.heap.size ≤ (w8.drewN q9).heap.size := hw8
    clear X8 L8 hw8
    generalize w8.drewN q9 = W9 at *
    go_wp2_with fail
    refine (HM.out a2 c2 f2 _ _ L9.out hw9).mono ?_
    rintro e w10 ⟨rfl, o10, i10, b10, _⟩
    have X10 : Hid (Below w2.heap.size w2 w10) := Lib.hid (X9.out.trans (b10.mono X3.out.size))
    have O10 := Lib.hid o10
    have I10 := Lib.hid i10
    clear X9 L9 o10 i10 b10
    go_wp2_with fail
    refine (HH.out a2 c2 f2 _ _ O10.out I10.out).mono ?_
    rintro e w11 ⟨rfl, rfl⟩
    go_wp2_with fail
    refine (laws_toIntS _ ys _ (HI.out.keep (B2.out.trans (X10.out.mono B2.out.size))) HL).mono ?_
    rintro e w12 ⟨v12, rfl, o12, b12⟩
    have X12 : Hid (Below w2.heap.size w2 w12) := Lib.hid (X10.out.trans (b12.mono X10.out.size))
    have O12 := Lib.hid (O10.out.all b12)
    have I12 : Hid (∀ k, k < X.length → Own .i64 3 w12 w3.heap.size (f2 k) (marks (1 + (offs (fun k => X.getD k []) k : Int)) (X.getD k []).length)) := Lib.hid (fun k hk => (I10.out k hk).all b12)
    clear X10 O10 I10 b12
    go_wp2_with fail
    refine (HP.out _ _ _ o12).mono ?_
    rintro e w13 ⟨a3, c3, f3, rfl, l13, b13⟩
    have X13 : Hid (Below w2.heap.size w2 w13) := Lib.hid (X12.out.trans (b13.mono X12.out.size))
    have O13 := Lib.hid (O12.out.all b13)
    have I13 : Hid (∀ k, k < X.length → Own .i64 3 w13 w3.heap.size (f2 k) (marks (1 + (offs (fun k => X.getD k []) k : Int)) (X.getD k []).length)) := Lib.hid (fun k hk => (I12.out k hk).all b13)
    clear X12 O12 I12 b13 o12
    go_wp2_with fail
    refine (HEQ.out a3 a1 c3 c1 f3 f1 _ _ _ l13 (L1.out.all X13.out)).mono ?_
    rintro e w14 ⟨rfl, q14, rfl⟩
    have X14 : Hid (Below w2.heap.size w2 (w13.drewN q14)) := Lib.hid (below_drewN X13.out q14)
    have O14 := Lib.hid (O13.out.all (below_drewN (Below.refl _ _) q14))
    have I14 : Hid (∀ k, k < X.length → Own .i64 3 (w13.drewN q14) w3.heap.size (f2 k) (marks (1 + (offs (fun k => X.getD k []) k : Int)) (X.getD k []).length)) := Lib.hid (fun k hk => (I13.out k hk).all (below_drewN (Below.refl _ _) q14))
    clear X13 O13 I13 l13
    generalize w13.drewN q14 = W14 at *
    go_wp2_with fail
    refine (HH.out a2 c2 f2 _ _ O14.out I14.out).mono ?_
    rintro e w15 ⟨rfl, rfl⟩
    have B15 : Hid (Below w.heap.size w W14) := Lib.hid (B2.out.trans (X14.out.mono B2.out.size))
    go_wp2
    go_ret
    exact ⟨rfl, B15.out⟩

end Go.Proofs.Ytdckjhobikfggaa.fnExactLinesOf
