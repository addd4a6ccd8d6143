/- The source's chance, and a state drawn: it is valid. -/
import Derived.Test.YtbamjhldebobhaaDoorDrawN
import Derived.Test.YtbamjhldebobhaaDoorStH
import Derived.Test.YtbamjhldebobhaaDoorStD
namespace Go.Proofs.YtbamjhldebobhaaDoor
open Go.RowKit

def ChanceDone (w : World) (b : Nat) (zs : List Int) (m : Nat) (e : Ending) (w' : World) : Prop := (∃ r : Bool, e = .returned (.bool r)) ∧ Src w' b zs (m + 3) ∧ Only b w w'
set_option maxHeartbeats 1000000 in
theorem src_chance (b : Nat) (zs : List Int) (m : Nat) (n : Int) (w : World) (h : Src w b zs m) (hm : m ≤ 1099511627770) (h0 : 0 ≤ n) (hn : n ≤ 16777216) :
    Calls Tryd.prog 44 #[.pointer (some ⟨b, 0, none⟩), .int .i64 n] w (ChanceDone w b zs m) := by
  have HS := Lib.hid h
  have uw : IntKind.i64.wrap (n - 1) = n - 1 := IntWalk.i64_in _ (by omega)
  clear h
  go_enter Tryd.func44, Tryd.ntmps44
  go_wp2_with fail
  refine (src_next b zs m n _ HS.out hm hn).mono ?_
  rintro e w1 ⟨⟨r, rfl, r0, r1⟩, s1, b1⟩
  go_wp2
  go_ret
  exact ⟨⟨_, rfl⟩, s1, b1⟩

theorem Src.lt' {w : World} {b : Nat} {zs : List Int} {m : Nat} (h : Src w b zs m) : b < w.heap.size := by
  obtain ⟨cv, k, seed, h1, _⟩ := h
  exact (Array.getElem?_eq_some_iff.1 h1).1
theorem Src.keep {w w' : World} {b : Nat} {zs : List Int} {m : Nat} (h : Src w b zs m) (hb : Below w.heap.size w w') : Src w' b zs m := by
  have hl := h.lt'
  obtain ⟨cv, k, seed, h1, h2, h3⟩ := h
  exact ⟨cv, k, seed, (hb.block b hl).trans h1, h2.keep hb, h3⟩
/-- A store into a block made after the source's. -/
theorem Src.set {w : World} {b : Nat} {zs : List Int} {m g j : Nat} {u : Value} (h : Src w b zs m) (hg : b < g) : Src (w.setCell ⟨g, j, none⟩ u) b zs m := by
  obtain ⟨cv, k, seed, h1, h2, h3, h4, h5, h6, h7, h8⟩ := h
  refine ⟨cv, k, seed, ?_, h2.store g j u (fun bb off c h0 hv => ?_), h3, h4, h5, h6, h7, h8⟩
  · rw [Below.heap_setCell _ _ _ _ (by simp; omega)]; exact h1
  · have := h8 bb off c h0 hv; omega
theorem Src.putSt {w : World} {b : Nat} {zs : List Int} {m g : Nat} (h : Src w b zs m) (hg : b < g) (y : St) : Src (putSt w g y) b zs m := ((((((h.set hg).set hg).set hg).set hg).set hg).set hg).set hg
theorem Only.own {b : Nat} {w w1 : World} (h : Only b w w1) {g j : Nat} {u : Value} (hb : b < w.heap.size) (hg : w.heap.size ≤ g) : Only b w (w1.setCell ⟨g, j, none⟩ u) :=
  ⟨h.1.setCell (show b ≤ g by omega) _, fun q hq hl => by rw [Below.heap_setCell _ _ _ _ (by simp; omega)]; exact h.2 q hq hl⟩
theorem Only.putSt {b : Nat} {w w1 : World} (h : Only b w w1) {g : Nat} (hb : b < w.heap.size) (hg : w.heap.size ≤ g) (y : St) : Only b w (putSt w1 g y) := ((((((h.own hb hg).own hb hg).own hb hg).own hb hg).own hb hg).own hb hg).own hb hg
theorem Only.below {b : Nat} {w w1 w2 : World} (h : Only b w w1) (hb : Below w1.heap.size w1 w2) (hl : b < w1.heap.size) (hs : w.heap.size ≤ w1.heap.size) : Only b w w2 :=
  ⟨h.1.trans (hb.mono (by omega)), fun q hq hlt => (hb.block q (by omega)).trans (h.2 q hq hlt)⟩
theorem StAt.only' {w w' : World} {g j : Nat} {x : St} (h : StAt w j x) (ho : Only g w w') (hg : j ≠ g) : StAt w' j x := (ho.2 j hg h.lt).trans h

theorem size_putS (w : World) (g : Nat) (y : St) : (putSt w g y).heap.size = w.heap.size := by simp [putSt]
theorem heap_putS {w : World} {g j : Nat} (y : St) (h : j ≠ g) : (putSt w g y).heap[j]? = w.heap[j]? := by
  unfold putSt
  rw [Below.heap_setCell _ _ _ _ (by simpa using h), Below.heap_setCell _ _ _ _ (by simpa using h), Below.heap_setCell _ _ _ _ (by simpa using h), Below.heap_setCell _ _ _ _ (by simpa using h), Below.heap_setCell _ _ _ _ (by simpa using h), Below.heap_setCell _ _ _ _ (by simpa using h), Below.heap_setCell _ _ _ _ (by simpa using h)]

/-- A state drawn so far: registers alone. -/
def calmSt (x : St) : Prop := stOKB x = true ∧ x.l = 0 ∧ x.s = 0 ∧ x.d = 0
theorem calmSt.start : calmSt startSt := ⟨by decide, rfl, rfl, rfl⟩
theorem calmSt.put {x : St} (h : calmSt x) {g v : Int} (hv0 : 1 ≤ v) (hv : v ≤ 8) (hg : g = 0 → setKind v ≠ 2) : calmSt (stPut x g v) := by
  obtain ⟨h1, h2, h3, h4⟩ := h
  obtain ⟨q1, q2, q3⟩ := stOK_parts h1
  obtain ⟨p1, p2, p3⟩ := put_head x g v
  exact ⟨stOK_mk (put_ok q1 hv0 hv hg) ((head_same p1 p2).trans q2) (lead_zero (p3.trans h4)), p1.trans h2, p2.trans h3, p3.trans h4⟩
theorem calmSt.shift {x : St} (h : calmSt x) {l s : Int} (l0 : 0 ≤ l) (l3 : l ≤ 3) (hs : s = 0 ∨ s = 2 ∨ s = 3) : stOKB ⟨x.g0, x.g1, x.g2, x.g3, l, s, x.d⟩ = true := by
  obtain ⟨h1, h2, h3, h4⟩ := h
  obtain ⟨q1, q2, q3⟩ := stOK_parts h1
  refine stOK_mk ((regs_same (x := x) rfl rfl rfl rfl).trans q1) ?_ (lead_zero h4)
  show (inB l 0 3 && (decide (s = 0) || inB s 2 3)) = true
  rw [inB_of l0 l3]
  rcases hs with rfl | rfl | rfl <;> rfl

def StateDone (w : World) (b : Nat) (zs : List Int) (m : Nat) (e : Ending) (w' : World) : Prop := (∃ x : St, e = .returned (stV x) ∧ stOKB x = true) ∧ Src w' b zs (m + 40) ∧ Only b w w'
set_option maxHeartbeats 1000000 in
set_option maxRecDepth 100000 in
theorem src_state (b : Nat) (zs : List Int) (m : Nat) (w : World) (h : Src w b zs m) (hm : m ≤ 1099511627000) :
    Calls Tryd.prog 22 #[.pointer (some ⟨b, 0, none⟩)] w (StateDone w b zs m) := by
  have hb := h.lt'
  have B0 := Lib.hid (below_one w (.cells #[.int .i64 0, .int .i64 0, .int .i64 0, .int .i64 0, .int .i64 0, .int .i64 0, .int .i64 0] 24))
  have HS0 := Lib.hid (h.keep B0.out)
  have HR0 := Lib.hid (stSlot0 w)
  have HL := Lib.hid (fun w => spec_l04Start w)
  unfold StDone stV startSt at HL
  clear h
  go_enter Tryd.func22, Tryd.ntmps22
  go_wp2_with fail
  refine (HL.out _).mono ?_
  generalize w.alloc (.cells #[.int .i64 0, .int .i64 0, .int .i64 0, .int .i64 0, .int .i64 0, .int .i64 0, .int .i64 0] 24) = W0 at *
  rintro e w1 ⟨rfl, b1⟩
  have S1 := Lib.hid ((HS0.out.keep b1).keep (below_one w1 (.cells #[.int .i64 1, .int .i64 0, .int .i64 0, .int .i64 0, .int .i64 0, .int .i64 0, .int .i64 0] 24)))
  have V1 : Hid (StAt (w1.alloc (.cells #[.int .i64 1, .int .i64 0, .int .i64 0, .int .i64 0, .int .i64 0, .int .i64 0, .int .i64 0] 24)) w1.heap.size startSt) := Lib.hid (heap_alloc_new _ _)
  have R1 := Lib.hid ((HR0.out.keep b1).keep (below_one w1 (.cells #[.int .i64 1, .int .i64 0, .int .i64 0, .int .i64 0, .int .i64 0, .int .i64 0, .int .i64 0] 24)))
  have B1 := B0.out.trans (b1.mono B0.out.size)
  have O1 : Hid (Only b w (w1.alloc (.cells #[.int .i64 1, .int .i64 0, .int .i64 0, .int .i64 0, .int .i64 0, .int .i64 0, .int .i64 0] 24))) := Lib.hid (by
    have h := B1.alloc B1.size (.cells #[.int .i64 1, .int .i64 0, .int .i64 0, .int .i64 0, .int .i64 0, .int .i64 0, .int .i64 0] 24)
    exact ⟨h.mono (by omega), fun q _ hq => h.block q hq⟩)
  have hw1 : w.heap.size < w1.heap.size := (HR0.out.keep b1).lt
  have hz1 : w.heap.size ≤ (w1.alloc (.cells #[.int .i64 1, .int .i64 0, .int .i64 0, .int .i64 0, .int .i64 0, .int .i64 0, .int .i64 0] 24)).heap.size := by simp; omega
  clear b1 B1 HS0 HR0 B0
  go_wp2
  generalize w1.alloc (.cells #[.int .i64 1, .int .i64 0, .int .i64 0, .int .i64 0, .int .i64 0, .int .i64 0, .int .i64 0] 24) = W1 at *
  go_loopw [4] (fun i wr => ∃ (k : Nat) (x : St), k ≤ 4 ∧ i = .int .i64 k ∧ Hid (calmSt x) ∧ Hid (StAt wr w1.heap.size x) ∧ Hid (StAt wr w.heap.size zeroSt) ∧ Hid (Src wr b zs (m + 6 * k)) ∧ Hid (Only b w wr) ∧ w.heap.size ≤ wr.heap.size) (fun i _ => 4 - (intOf i).toNat)
  case atStart => exact ⟨0, startSt, by omega, rfl, Lib.hid calmSt.start, V1, R1, S1, O1, hz1⟩
  case round =>
    clear V1 R1 S1 O1 hz1
    obtain ⟨k, x, hk, rfl, HX, HV, HR, HS, HO, hz⟩ := hrel
    by_cases hlt : k < 4
    · have v2 : (k : Int) < 4 := by omega
      go_wp2_with fail
      refine (src_chance b zs (m + 6 * k) 2 _ HS.out (by omega) (by omega) (by omega)).mono ?_
      rintro e w2 ⟨⟨r, rfl⟩, s2, o2⟩
      have HV2 := Lib.hid (HV.out.only' o2 (by omega))
      have HR2 := Lib.hid (HR.out.only' o2 (by omega))
      have HS2 := Lib.hid s2
      have HO2 := Lib.hid (HO.out.trans o2)
      have hz2 : w.heap.size ≤ w2.heap.size := by have := HR2.out.lt; omega
      clear s2 o2 HV HR HS HO
      cases r
      · go_wp2
        go_roundw
        case rel => exact ⟨k + 1, x, by omega, by go_num, HX, HV2, HR2, Lib.hid (HS2.out.more (by omega)), HO2, hz2⟩
        case measure => simp [intOf]; omega
      · go_wp2_with fail
        refine (src_next b zs (m + 6 * k + 3) 8 _ HS2.out (by omega) (by omega)).mono ?_
        rintro e w3 ⟨⟨q, rfl, r0, r1⟩, s3, o3⟩
        have HV3 := Lib.hid (HV2.out.only' o3 (by omega))
        have HR3 := Lib.hid (HR2.out.only' o3 (by omega))
        have HS3 := Lib.hid s3
        have HO3 := Lib.hid (HO2.out.trans o3)
        have hz3 : w.heap.size ≤ w3.heap.size := by have := HR3.out.lt; omega
        have u1 : IntKind.i64.wrap (1 + q) = 1 + q := IntWalk.i64_in _ (by omega)
        clear s3 o3 HV2 HR2 HS2 HO2
        by_cases hk0 : k = 0
        · subst hk0
          go_wp2_with fail
          refine (spec_l02Set (1 + q) _).mono ?_
          rintro e w4 ⟨yg, rfl, hyg, hblk, b4⟩
          have HV4 := Lib.hid (HV3.out.keep b4)
          have HR4 := Lib.hid (HR3.out.keep b4)
          have HS4 := Lib.hid (HS3.out.keep b4)
          have HO4 := Lib.hid (HO3.out.below b4 (HS3.out.lt') hz3)
          have hz4 : w.heap.size ≤ w4.heap.size := by have := b4.size; omega
          clear hyg hblk b4 HV3 HR3 HS3 HO3
          unfold setV
          have F1 := setField1
          by_cases k2 : setKind (1 + q) = 2
          · rw [k2]
            go_wp2
            go_roundw
            case rel => exact ⟨0 + 1, x, by omega, by go_num, HX, HV4, HR4, Lib.hid (HS4.out.more (by omega)), HO4, hz4⟩
            case measure => simp [intOf]
          · have ek : (setKind (1 + q) != 2) = true := by simpa using k2
            have HK2 := Lib.hid k2
            have ⟨y0, y1, y2, y3, y4, y5, y6⟩ := HV4.out.cells
            go_wp2_with fail
            refine (spec_l04Put x (0 : Int) (1 + q) _ (by omega) (by omega)).mono ?_
            clear y0 y1 y2 y3 y4 y5 y6
            rintro e w5 ⟨rfl, b5⟩
            have V5 := Lib.hid (HV4.out.keep b5)
            have R5 := Lib.hid (HR4.out.keep b5)
            have S5 := Lib.hid (HS4.out.keep b5)
            have O5 := Lib.hid (HO4.out.below b5 (HS4.out.lt') hz4)
            have hz5 : w.heap.size ≤ w5.heap.size := by have := b5.size; omega
            have HP := Lib.hid (HX.out.put (g := (0 : Int)) (v := 1 + q) (by omega) (by omega) (fun _ => HK2.out))
            clear b5
            have ⟨y0, y1, y2, y3, y4, y5, y6⟩ := V5.out.cells
            have ⟨z0, z1, z2, z3, z4, z5, z6⟩ := V5.out.thaw
            have hl : w1.heap.size < w5.heap.size := V5.out.lt
            have SP := Lib.hid (S5.out.putSt (show b < w1.heap.size by omega) (stPut x (0 : Int) (1 + q)))
            have OP := Lib.hid (O5.out.putSt hb (show w.heap.size ≤ w1.heap.size by omega) (stPut x (0 : Int) (1 + q)))
            have VP := Lib.hid (V5.out.put (stPut x (0 : Int) (1 + q)))
            have RP : Hid (StAt (putSt w5 w1.heap.size (stPut x (0 : Int) (1 + q))) w.heap.size zeroSt) := Lib.hid ((heap_putS (stPut x (0 : Int) (1 + q)) (by omega)).trans R5.out)
            have hzp : w.heap.size ≤ (putSt w5 w1.heap.size (stPut x (0 : Int) (1 + q))).heap.size := by rw [size_putS]; exact hz5
            generalize stPut x (0 : Int) (1 + q) = x2 at *
            unfold stV
            go_wp2
            go_roundw
            case rel => exact ⟨0 + 1, x2, by omega, by go_num, HP, VP, RP, Lib.hid (SP.out.more (by omega)), OP, hzp⟩
            case measure => simp [intOf]
        · have v3 : 0 < (k : Int) := by omega
          have ⟨y0, y1, y2, y3, y4, y5, y6⟩ := HV3.out.cells
          go_wp2_with fail
          refine (spec_l04Put x (k : Int) (1 + q) _ (by omega) (by omega)).mono ?_
          clear y0 y1 y2 y3 y4 y5 y6
          rintro e w5 ⟨rfl, b5⟩
          have V5 := Lib.hid (HV3.out.keep b5)
          have R5 := Lib.hid (HR3.out.keep b5)
          have S5 := Lib.hid (HS3.out.keep b5)
          have O5 := Lib.hid (HO3.out.below b5 (HS3.out.lt') hz3)
          have hz5 : w.heap.size ≤ w5.heap.size := by have := b5.size; omega
          have HP := Lib.hid (HX.out.put (g := (k : Int)) (v := 1 + q) (by omega) (by omega) (fun h => absurd h (by omega)))
          clear b5
          have ⟨y0, y1, y2, y3, y4, y5, y6⟩ := V5.out.cells
          have ⟨z0, z1, z2, z3, z4, z5, z6⟩ := V5.out.thaw
          have hl : w1.heap.size < w5.heap.size := V5.out.lt
          have SP := Lib.hid (S5.out.putSt (show b < w1.heap.size by omega) (stPut x (k : Int) (1 + q)))
          have OP := Lib.hid (O5.out.putSt hb (show w.heap.size ≤ w1.heap.size by omega) (stPut x (k : Int) (1 + q)))
          have VP := Lib.hid (V5.out.put (stPut x (k : Int) (1 + q)))
          have RP : Hid (StAt (putSt w5 w1.heap.size (stPut x (k : Int) (1 + q))) w.heap.size zeroSt) := Lib.hid ((heap_putS (stPut x (k : Int) (1 + q)) (by omega)).trans R5.out)
          have hzp : w.heap.size ≤ (putSt w5 w1.heap.size (stPut x (k : Int) (1 + q))).heap.size := by rw [size_putS]; exact hz5
          generalize stPut x (k : Int) (1 + q) = x2 at *
          unfold stV
          go_wp2
          go_roundw
          case rel => exact ⟨k + 1, x2, by omega, by go_num, HP, VP, RP, Lib.hid (SP.out.more (by omega)), OP, hzp⟩
          case measure => simp [intOf]; omega
    · obtain rfl : k = 4 := by omega
      clear hlt hk
      have S1 := Lib.hid (HS.out.keep (below_one wr (.cells #[.int .i64 0, .int .i64 0, .int .i64 1, .int .i64 2, .int .i64 3] 3)))
      have V1 := Lib.hid (HV.out.keep (below_one wr (.cells #[.int .i64 0, .int .i64 0, .int .i64 1, .int .i64 2, .int .i64 3] 3)))
      have R1 := Lib.hid (HR.out.keep (below_one wr (.cells #[.int .i64 0, .int .i64 0, .int .i64 1, .int .i64 2, .int .i64 3] 3)))
      have O1 := Lib.hid (HO.out.below (below_one wr (.cells #[.int .i64 0, .int .i64 0, .int .i64 1, .int .i64 2, .int .i64 3] 3)) HS.out.lt' hz)
      have L1 := Lib.hid (heap_alloc_new wr (.cells #[.int .i64 0, .int .i64 0, .int .i64 1, .int .i64 2, .int .i64 3] 3))
      have hV := HV.out.lt
      have hR := HR.out.lt
      have hbr : b < wr.heap.size := HS.out.lt'
      have hsz : wr.heap.size < (wr.alloc (.cells #[.int .i64 0, .int .i64 0, .int .i64 1, .int .i64 2, .int .i64 3] 3)).heap.size := by simp
      clear HS HV HR HO hz
      go_wp2_with fail
      refine (src_next b zs (m + 6 * 4) 5 _ S1.out (by omega) (by omega)).mono ?_
      generalize wr.alloc (.cells #[.int .i64 0, .int .i64 0, .int .i64 1, .int .i64 2, .int .i64 3] 3) = W1 at *
      rintro e w2 ⟨⟨r, rfl, r0, r1⟩, s2, o2⟩
      have S2 := Lib.hid s2
      have V2 := Lib.hid (V1.out.only' o2 (by omega))
      have R2 := Lib.hid (R1.out.only' o2 (by omega))
      have O2 := Lib.hid (O1.out.trans o2)
      have L2 := (o2.2 wr.heap.size (by omega) hsz).trans L1.out
      obtain ⟨j, rfl⟩ : ∃ j : Nat, r = (j : Int) := ⟨r.toNat, by omega⟩
      have v1 : (0 : Int) ≤ (j : Int) := by omega
      have v2 : (j : Int) < 5 := by omega
      obtain ⟨l, l0, l3, cl⟩ : ∃ l : Int, 0 ≤ l ∧ l ≤ 3 ∧ w2.cell? ⟨wr.heap.size, j, none⟩ = some (.int .i64 l) := by
        rw [cell_of_row _ _ _ _ _ _ L2]
        have : j = 0 ∨ j = 1 ∨ j = 2 ∨ j = 3 ∨ j = 4 := by omega
        rcases this with rfl | rfl | rfl | rfl | rfl
        · exact ⟨0, by omega, by omega, rfl⟩
        · exact ⟨0, by omega, by omega, rfl⟩
        · exact ⟨1, by omega, by omega, rfl⟩
        · exact ⟨2, by omega, by omega, rfl⟩
        · exact ⟨3, by omega, by omega, rfl⟩
      clear s2 o2 L1 L2 S1 V1 R1 O1
      have ⟨z0, z1, z2, z3, z4, z5, z6⟩ := V2.out.thaw
      have ⟨y0, y1, y2, y3, y4, y5, y6⟩ := V2.out.cells
      have hl2 : w1.heap.size < w2.heap.size := V2.out.lt
      have V3 : Hid (StAt (w2.setCell ⟨w1.heap.size, 4, none⟩ (.int .i64 l)) w1.heap.size ⟨x.g0, x.g1, x.g2, x.g3, l, x.s, x.d⟩) := Lib.hid (heap_setCell_same _ _ 4 _ _ (.int .i64 l) V2.out)
      have S3 := Lib.hid (S2.out.set (j := 4) (u := .int .i64 l) (show b < w1.heap.size by omega))
      have O3 := Lib.hid (O2.out.own (j := 4) (u := .int .i64 l) hb (show w.heap.size ≤ w1.heap.size by omega))
      have R3 : Hid (StAt (w2.setCell ⟨w1.heap.size, 4, none⟩ (.int .i64 l)) w.heap.size zeroSt) := Lib.hid ((Below.heap_setCell _ _ _ _ (by simp; omega)).trans R2.out)
      go_wp2_with fail
      refine (src_chance b zs (m + 6 * 4 + 3) 5 _ S3.out (by omega) (by omega) (by omega)).mono ?_
      clear y0 y1 y2 y3 y4 y5 y6 z0 z1 z2 z3 z4 z5 z6 cl S2 V2 R2 O2
      generalize w2.setCell ⟨w1.heap.size, 4, none⟩ (.int .i64 l) = W3 at *
      rintro e w4 ⟨⟨r, rfl⟩, s4, o4⟩
      have S4 := Lib.hid s4
      have V4 := Lib.hid (V3.out.only' o4 (by omega))
      have R4 := Lib.hid (R3.out.only' o4 (by omega))
      have O4 := Lib.hid (O3.out.trans o4)
      clear s4 o4 S3 V3 R3 O3
      cases r
      · have HOK := Lib.hid (HX.out.shift l0 l3 (s := x.s) (.inl HX.out.2.2.1))
        have ⟨y0, y1, y2, y3, y4, y5, y6⟩ := V4.out.cells
        have ⟨r0, r1, r2, r3, r4, r5, r6⟩ := R4.out.cells
        have ⟨z0, z1, z2, z3, z4, z5, z6⟩ := R4.out.thaw
        simp only [zeroSt] at r0 r1 r2 r3 r4 r5 r6
        have hl : w.heap.size < w4.heap.size := R4.out.lt
        dsimp only at y0 y1 y2 y3 y4 y5 y6
        have SF := Lib.hid (S4.out.putSt hb ⟨x.g0, x.g1, x.g2, x.g3, l, x.s, x.d⟩)
        have OF := Lib.hid (O4.out.putSt hb (Nat.le_refl _) ⟨x.g0, x.g1, x.g2, x.g3, l, x.s, x.d⟩)
        go_wp2
        exact bodyPost_ret (results_cell_row rfl _ _ w.heap.size _ _ _ _ rfl (R4.out.put ⟨x.g0, x.g1, x.g2, x.g3, l, x.s, x.d⟩) Tryd.underlying24 rfl (by kernel_rfl)) rfl ⟨⟨⟨x.g0, x.g1, x.g2, x.g3, l, x.s, x.d⟩, rfl, HOK.out⟩, SF.out.more (by omega), OF.out⟩
      · go_wp2_with fail
        refine (src_next b zs (m + 6 * 4 + 3 + 3) 2 _ S4.out (by omega) (by omega)).mono ?_
        rintro e w5 ⟨⟨q, rfl, q0, q1⟩, s5, o5⟩
        have S5 := Lib.hid s5
        have V5 := Lib.hid (V4.out.only' o5 (by omega))
        have R5 := Lib.hid (R4.out.only' o5 (by omega))
        have O5 := Lib.hid (O4.out.trans o5)
        have u2 : IntKind.i64.wrap (2 + q) = 2 + q := IntWalk.i64_in _ (by omega)
        have HOK := Lib.hid (HX.out.shift l0 l3 (s := 2 + q) (by omega))
        clear s5 o5 S4 V4 R4 O4
        have ⟨Z0, Z1, Z2, Z3, Z4, Z5, Z6⟩ := V5.out.thaw
        have ⟨Y0, Y1, Y2, Y3, Y4, Y5, Y6⟩ := V5.out.cells
        have hl5 : w1.heap.size < w5.heap.size := V5.out.lt
        dsimp only at Y0 Y1 Y2 Y3 Y4 Y5 Y6
        have R6 : Hid (StAt (w5.setCell ⟨w1.heap.size, 5, none⟩ (.int .i64 (2 + q))) w.heap.size zeroSt) := Lib.hid ((Below.heap_setCell _ _ _ _ (by simp; omega)).trans R5.out)
        have S6 := Lib.hid (S5.out.set (j := 5) (u := .int .i64 (2 + q)) (show b < w1.heap.size by omega))
        have O6 := Lib.hid (O5.out.own (j := 5) (u := .int .i64 (2 + q)) hb (show w.heap.size ≤ w1.heap.size by omega))
        have ⟨r0, r1, r2, r3, r4, r5, r6⟩ := R5.out.cells
        have ⟨z0, z1, z2, z3, z4, z5, z6⟩ := R5.out.thaw
        simp only [zeroSt] at r0 r1 r2 r3 r4 r5 r6
        have hl : w.heap.size < w5.heap.size := R5.out.lt
        have SF := Lib.hid (S6.out.putSt hb ⟨x.g0, x.g1, x.g2, x.g3, l, 2 + q, x.d⟩)
        have OF := Lib.hid (O6.out.putSt hb (Nat.le_refl _) ⟨x.g0, x.g1, x.g2, x.g3, l, 2 + q, x.d⟩)
        go_wp2
        exact bodyPost_ret (results_cell_row rfl _ _ w.heap.size _ _ _ _ rfl (R6.out.put ⟨x.g0, x.g1, x.g2, x.g3, l, 2 + q, x.d⟩) Tryd.underlying24 rfl (by kernel_rfl)) rfl ⟨⟨⟨x.g0, x.g1, x.g2, x.g3, l, 2 + q, x.d⟩, rfl, HOK.out⟩, SF.out.more (by omega), OF.out⟩

end Go.Proofs.YtbamjhldebobhaaDoor
