/- The specification's tokens: designations and plain escape sequences. -/
import Derived.Test.YtbamjhldebobhaaDoorTokM
import Derived.Test.YtbamjhldebobhaaDoorInts
import Derived.IntWalk
import Derived.Laws.Rows
import Derived.Laws.ResultCell
namespace Go.Proofs.YtbamjhldebobhaaDoor
open Go.RowKit

theorem str_eqf {s t : ByteArray} (h : ¬ s = t) : (s.toList == t.toList) = false := by
  rw [beq_eq_false_iff_ne, ByteArray.toList_eq, ByteArray.toList_eq]
  intro h2
  exact h (ByteArray.ext (Array.toList_inj.1 h2))
theorem list36 : (⟨#[36]⟩ : ByteArray).toList = [36] := by rw [ByteArray.toList_eq]
def midV (s : ByteArray) : Value := .tuple #[.int .i64 (midG s), .int .i64 (midK s)]

theorem placeOf_drop (s : ByteArray) (k : Nat) (h : k < mids.length) : placeOf s (mids.drop k) k = if mids[k] = s then (k : Int) else placeOf s (mids.drop (k + 1)) ((k + 1 : Nat) : Int) := by
  rw [List.drop_eq_getElem_cons h]; rfl

set_option maxHeartbeats 1000000 in
set_option maxRecDepth 100000 in
theorem spec_l03Name (s : ByteArray) (w : World) : Calls Tryd.prog 89 #[.string s] w fun e w' => e = .returned (midV s) ∧ Below w.heap.size w w' := by
  have hnew := heap_alloc_new w (.cells (mids.map Value.string).toArray 9)
  have HC : Hid (∀ k (h : k < mids.length), (w.alloc (.cells (mids.map Value.string).toArray 9)).cell? ⟨w.heap.size, k, none⟩ = some (.string mids[k])) := Lib.hid (fun k h => by
    rw [cell_of_row _ _ _ _ _ _ hnew]
    simp [List.getElem?_eq_getElem h])
  have B := (Below.refl w.heap.size w).alloc (Nat.le_refl _) (.cells (mids.map Value.string).toArray 9)
  clear hnew
  go_enter Tryd.func89, Tryd.ntmps89
  go_wp2
  change Code.wp _ _ _ _ (w.alloc (.cells (mids.map Value.string).toArray 9))
  generalize w.alloc (.cells (mids.map Value.string).toArray 9) = w1 at *
  go_loop [5] (fun i => ∃ k : Nat, k ≤ 12 ∧ i = .int .i64 k ∧ Hid (midNo s = placeOf s (mids.drop k) k)) (fun i => 12 - (intOf i).toNat)
  case atStart => exact ⟨0, by omega, rfl, Lib.hid rfl⟩
  case round =>
    obtain ⟨k, hk, rfl, HR⟩ := hrel
    by_cases hlt : k < 12
    · have hlm : k < mids.length := hlt
      have hc := HC.out k hlm
      have HD := Lib.hid (placeOf_drop s k hlm)
      have v1 : (0 : Int) ≤ (k : Int) := by omega
      have v2 : (k : Int) < 12 := by omega
      generalize mids[k] = t at *
      by_cases he : t = s
      · have HN : Hid (midNo s = k) := Lib.hid (by rw [HR.out, HD.out, if_pos he])
        subst he
        by_cases h4 : k < 4
        · have HE : Hid (midV t = .tuple #[.int .i64 (k : Int), .int .i64 1]) := Lib.hid (by
            have a : ¬ ((k : Int) < 0) := by omega
            have b : (k : Int) < 4 := by omega
            simp [midV, midG, midK, HN.out, a, b])
          go_wp2
          go_ret2
          exact ⟨ret_val HE.out.symm, B⟩
        by_cases h7 : k < 7
        · have HE : Hid (midV t = .tuple #[.int .i64 ((k : Int) - 3), .int .i64 2]) := Lib.hid (by
            have a : ¬ ((k : Int) < 0) := by omega
            have b : ¬ ((k : Int) < 4) := by omega
            have c : (k : Int) < 7 := by omega
            simp [midV, midG, midK, HN.out, a, b, c])
          go_wp2
          go_ret2
          exact ⟨ret_val HE.out.symm, B⟩
        by_cases h8 : k = 7
        · subst h8
          have HE : Hid (midV t = .tuple #[.int .i64 0, .int .i64 3]) := Lib.hid (by simp [midV, midG, midK, HN.out])
          go_wp2
          go_ret2
          exact ⟨ret_val HE.out.symm, B⟩
        · have HE : Hid (midV t = .tuple #[.int .i64 ((k : Int) - 8), .int .i64 3]) := Lib.hid (by
            have a : ¬ ((k : Int) < 0) := by omega
            have b : ¬ ((k : Int) < 4) := by omega
            have c : ¬ ((k : Int) < 7) := by omega
            have d : ¬ ((k : Int) = 7) := by omega
            simp [midV, midG, midK, HN.out, a, b, c, d])
          have hz : ((k : Int) == 7) = false := by simp; omega
          go_wp2
          go_ret2
          exact ⟨ret_val HE.out.symm, B⟩
      · have HX : Hid (midNo s = placeOf s (mids.drop (k + 1)) ((k + 1 : Nat) : Int)) := Lib.hid (by rw [HR.out, HD.out, if_neg he])
        have hne := str_eqf he
        go_wp2
        go_round
        case rel => exact ⟨k + 1, by omega, by go_num, HX⟩
        case measure => simp [intOf]; omega
    · have hk12 : k = 12 := by omega
      subst hk12
      have HE : Hid (midV s = .tuple #[.int .i64 (-1), .int .i64 0]) := Lib.hid (by
        have : midNo s = -1 := by rw [HR.out]; rfl
        simp [midV, midG, midK, this])
      go_wp2
      go_ret2
      exact ⟨ret_val HE.out.symm, B⟩

/-- A token handed back in its slot. -/
def TokDone (x : Tok) (w : World) (e : Ending) (w' : World) : Prop := e = .returned (tokV x) ∧ Below w.heap.size w w'
theorem tok_ret {P : Program} {fn : Func} {p : Tmp} {a : Act} {w w1 : World} {g : Nat} {t ty : TypeId} {fr : Nat × Nat} {d : TypeDesc} {x y : Tok} (hx : x = y) (h : fn.results = #[.cell p ty])
    (hp : a.tmps.getD p undef = .pointer (some ⟨g, 0, none⟩)) (hg : w1.heap[g]? = some (.cells #[.int .i64 y.k, .int .i64 y.a, .int .i64 y.b, .int .i64 y.c, .int .i64 y.p, .int .i64 y.n] t fr))
    (hu : P.underlying ty = some d) (hd : (match d with | .struct _ | .array _ _ => true | _ => false) = true) (hi : (P.info? ty).map (·.size) = some 6) (hdef : a.defers = []) (hb : Below w.heap.size w w1) :
    bodyPost P fn (TokDone x w) .ret a w1 :=
  hx ▸ bodyPost_ret (results_cell_row h _ _ g _ _ _ _ hp hg hu hd hi) hdef ⟨rfl, hb⟩

def TokAt (w : World) (g : Nat) (x : Tok) : Prop := w.heap[g]? = some (.cells #[.int .i64 x.k, .int .i64 x.a, .int .i64 x.b, .int .i64 x.c, .int .i64 x.p, .int .i64 x.n] 38)
theorem TokAt.lt {w : World} {g : Nat} {x : Tok} (h : TokAt w g x) : g < w.heap.size := (Array.getElem?_eq_some_iff.1 h).1
theorem TokAt.keep {w w' : World} {g : Nat} {x : Tok} (h : TokAt w g x) (b : Below w.heap.size w w') : TokAt w' g x := (b.block g h.lt).trans h
theorem TokAt.below {w w' : World} {g B : Nat} {x : Tok} (h : TokAt w g x) (b : Below B w w') (hB : g < B) : TokAt w' g x := (b.block g hB).trans h
theorem TokAt.new (w : World) (x : Tok) : TokAt (w.alloc (.cells #[.int .i64 x.k, .int .i64 x.a, .int .i64 x.b, .int .i64 x.c, .int .i64 x.p, .int .i64 x.n] 38)) w.heap.size x := heap_alloc_new _ _
theorem TokAt.cells {w : World} {g : Nat} {x : Tok} (h : TokAt w g x) : w.cell? ⟨g, 0, none⟩ = some (.int .i64 x.k) ∧ w.cell? ⟨g, 1, none⟩ = some (.int .i64 x.a) ∧ w.cell? ⟨g, 2, none⟩ = some (.int .i64 x.b) ∧ w.cell? ⟨g, 3, none⟩ = some (.int .i64 x.c) ∧ w.cell? ⟨g, 4, none⟩ = some (.int .i64 x.p) ∧ w.cell? ⟨g, 5, none⟩ = some (.int .i64 x.n) := by
  refine ⟨?_, ?_, ?_, ?_, ?_, ?_⟩ <;> (rw [cell_of_row _ _ _ _ _ _ h]; rfl)
theorem TokAt.thaw {w : World} {g : Nat} {x : Tok} (h : TokAt w g x) : w.frozen? ⟨g, 0, none⟩ = false ∧ w.frozen? ⟨g, 1, none⟩ = false ∧ w.frozen? ⟨g, 2, none⟩ = false ∧ w.frozen? ⟨g, 3, none⟩ = false ∧ w.frozen? ⟨g, 4, none⟩ = false ∧ w.frozen? ⟨g, 5, none⟩ = false :=
  ⟨frozen_of_row w _ 0 _ _ h, frozen_of_row w _ 1 _ _ h, frozen_of_row w _ 2 _ _ h, frozen_of_row w _ 3 _ _ h, frozen_of_row w _ 4 _ _ h, frozen_of_row w _ 5 _ _ h⟩
/-- A token stored field by field. -/
def putTok (w : World) (g : Nat) (y : Tok) : World := (((((w.setCell ⟨g, 0, none⟩ (.int .i64 y.k)).setCell ⟨g, 1, none⟩ (.int .i64 y.a)).setCell ⟨g, 2, none⟩ (.int .i64 y.b)).setCell ⟨g, 3, none⟩ (.int .i64 y.c)).setCell ⟨g, 4, none⟩ (.int .i64 y.p)).setCell ⟨g, 5, none⟩ (.int .i64 y.n)
theorem TokAt.put {w : World} {g : Nat} {x : Tok} (h : TokAt w g x) (y : Tok) : TokAt (putTok w g y) g y := by
  have k0 := heap_setCell_same w g 0 _ _ (.int .i64 y.k) h
  have k1 := heap_setCell_same _ g 1 _ _ (.int .i64 y.a) k0
  have k2 := heap_setCell_same _ g 2 _ _ (.int .i64 y.b) k1
  have k3 := heap_setCell_same _ g 3 _ _ (.int .i64 y.c) k2
  have k4 := heap_setCell_same _ g 4 _ _ (.int .i64 y.p) k3
  have k5 := heap_setCell_same _ g 5 _ _ (.int .i64 y.n) k4
  exact k5
theorem below_put {B : Nat} {a w : World} (h : Below B a w) {g : Nat} (hg : B ≤ g) (y : Tok) : Below B a (putTok w g y) := (((((h.setCell hg _).setCell hg _).setCell hg _).setCell hg _).setCell hg _).setCell hg _
theorem below_two (w : World) (o o' : Obj) : Below w.heap.size w ((w.alloc o).alloc o') := ((Below.refl _ _).alloc (Nat.le_refl _) _).alloc (by simp) _

set_option maxHeartbeats 1000000 in
set_option maxRecDepth 100000 in
theorem spec_plain_e (f p n : Int) (w : World) : Calls Tryd.prog 85 #[.string ⟨#[]⟩, .int .i64 f, .int .i64 p, .int .i64 n] w (TokDone (plainTok ⟨#[]⟩ f p n) w) := by
  by_cases f1 : f = 78 ∨ f = 79
  · have HE : Hid (plainTok ⟨#[]⟩ f p n = ⟨6, f - 78 + 2, 0, 0, p, n⟩) := Lib.hid (by simp [plainTok, f1])
    rcases f1 with rfl | rfl
    all_goals
      go_enter Tryd.func85, Tryd.ntmps85
      go_wp2
      exact tok_ret HE.out rfl rfl (heap_alloc2_old _ _ _) Tryd.underlying38 rfl (by kernel_rfl) rfl (below_two _ _ _)
  · by_cases f2 : f = 110 ∨ f = 111
    · have HE : Hid (plainTok ⟨#[]⟩ f p n = ⟨5, f - 110 + 2, 0, 0, p, n⟩) := Lib.hid (by simp [plainTok, f1, f2])
      rcases f2 with rfl | rfl
      all_goals
        go_enter Tryd.func85, Tryd.ntmps85
        go_wp2
        exact tok_ret HE.out rfl rfl (heap_alloc2_old _ _ _) Tryd.underlying38 rfl (by kernel_rfl) rfl (below_two _ _ _)
    · have HE : Hid (plainTok ⟨#[]⟩ f p n = ⟨9, 0, 0, 0, p, n⟩) := Lib.hid (by simp [plainTok, f1, f2])
      have e1 : (f == 78) = false := by simp; omega
      have e2 : (f == 79) = false := by simp; omega
      have e3 : (f == 110) = false := by simp; omega
      have e4 : (f == 111) = false := by simp; omega
      clear f1 f2
      go_enter Tryd.func85, Tryd.ntmps85
      go_wp2
      exact tok_ret HE.out rfl rfl (heap_alloc2_old _ _ _) Tryd.underlying38 rfl (by kernel_rfl) rfl (below_two _ _ _)

set_option maxHeartbeats 4000000 in
set_option maxRecDepth 100000 in
theorem spec_plain_m (mid : ByteArray) (f p n : Int) (w : World) (hm : ¬ mid = ⟨#[]⟩) (h0 : 0 ≤ f) (h1 : f ≤ 255) : Calls Tryd.prog 85 #[.string mid, .int .i64 f, .int .i64 p, .int .i64 n] w (TokDone (plainTok mid f p n) w) := by
  have hm2 : (mid.toList == (⟨#[]⟩ : ByteArray).toList) = false := str_eqf hm
  have hm3 : mid.toList.isEmpty = false := by
    rw [ByteArray.toList_eq]
    cases h : mid.data.toList with
    | nil => exact absurd (ByteArray.ext (Array.toList_inj.1 h)) hm
    | cons _ _ => rfl
  have HP : Hid (midG mid < 0 ∨ f < 64 ∨ (mid = ⟨#[36]⟩ ∧ 66 < f) → plainTok mid f p n = ⟨9, 0, 0, 0, p, n⟩) := Lib.hid (fun h => by simp only [plainTok, if_neg hm, if_pos h])
  have HQ : Hid (¬ (midG mid < 0 ∨ f < 64 ∨ (mid = ⟨#[36]⟩ ∧ 66 < f)) → plainTok mid f p n = ⟨7, midG mid, midK mid, f, p, n⟩) := Lib.hid (fun h => by simp only [plainTok, if_neg hm, if_neg h])
  have hR0 : TokAt ((w.alloc (.cells #[.int .i64 0, .int .i64 0, .int .i64 0, .int .i64 0, .int .i64 0, .int .i64 0] 38)).alloc (.cells #[.int .i64 9, .int .i64 0, .int .i64 0, .int .i64 0, .int .i64 p, .int .i64 n] 38)) w.heap.size zeroTok := heap_alloc2_old _ _ _
  have hX0 : TokAt ((w.alloc (.cells #[.int .i64 0, .int .i64 0, .int .i64 0, .int .i64 0, .int .i64 0, .int .i64 0] 38)).alloc (.cells #[.int .i64 9, .int .i64 0, .int .i64 0, .int .i64 0, .int .i64 p, .int .i64 n] 38)) (w.heap.size + 1) ⟨9, 0, 0, 0, p, n⟩ := heap_alloc2_new _ _ _
  have b0 := below_two w (.cells #[.int .i64 0, .int .i64 0, .int .i64 0, .int .i64 0, .int .i64 0, .int .i64 0] 38) (.cells #[.int .i64 9, .int .i64 0, .int .i64 0, .int .i64 0, .int .i64 p, .int .i64 n] 38)
  clear hm
  go_enter Tryd.func85, Tryd.ntmps85
  go_wp2_with fail
  refine (spec_l03Name mid _).mono ?_
  rintro e w2 ⟨rfl, b2⟩
  have hR := hR0.keep b2
  have hX := hX0.keep b2
  have B2 : Below w.heap.size w w2 := b0.trans (b2.mono b0.size)
  clear hR0 hX0 b0 b2
  unfold midV
  have ⟨r0, r1, r2, r3, r4, r5⟩ := hR.cells
  have ⟨z0, z1, z2, z3, z4, z5⟩ := hR.thaw
  have ⟨x0, x1, x2, x3, x4, x5⟩ := hX.cells
  have ⟨y0, y1, y2, y3, y4, y5⟩ := hX.thaw
  simp only [zeroTok] at r0 r1 r2 r3 r4 r5
  simp only at x0 x1 x2 x3 x4 x5
  have hl1 : w.heap.size < w2.heap.size := hR.lt
  have hl2 : w.heap.size + 1 < w2.heap.size := hX.lt
  have HRh := Lib.hid hR
  have HXh := Lib.hid hX
  clear hR hX
  generalize midG mid = mg at *
  generalize midK mid = mk at *
  by_cases g0 : mg < 0
  · have HE := Lib.hid (HP.out (.inl g0))
    go_wp2
    exact tok_ret (y := ⟨9, 0, 0, 0, p, n⟩) HE.out rfl rfl (HRh.out.put ⟨9, 0, 0, 0, p, n⟩) Tryd.underlying38 rfl (by kernel_rfl) rfl (below_put B2 (Nat.le_refl _) ⟨9, 0, 0, 0, p, n⟩)
  by_cases g1 : f < 64
  · have HE := Lib.hid (HP.out (.inr (.inl g1)))
    go_wp2
    exact tok_ret (y := ⟨9, 0, 0, 0, p, n⟩) HE.out rfl rfl (HRh.out.put ⟨9, 0, 0, 0, p, n⟩) Tryd.underlying38 rfl (by kernel_rfl) rfl (below_put B2 (Nat.le_refl _) ⟨9, 0, 0, 0, p, n⟩)
  by_cases g2 : mid = ⟨#[36]⟩ ∧ 66 < f
  · have HE := Lib.hid (HP.out (.inr (.inr g2)))
    obtain ⟨rfl, g3⟩ := g2
    go_wp2
    exact tok_ret (y := ⟨9, 0, 0, 0, p, n⟩) HE.out rfl rfl (HRh.out.put ⟨9, 0, 0, 0, p, n⟩) Tryd.underlying38 rfl (by kernel_rfl) rfl (below_put B2 (Nat.le_refl _) ⟨9, 0, 0, 0, p, n⟩)
  · have HE := Lib.hid (HQ.out (fun h => h.elim g0 (fun h => h.elim g1 g2)))
    clear HP HQ
    have hw3 : Hid (TokAt ((((w2.setCell ⟨w.heap.size + 1, 0, none⟩ (.int .i64 7)).setCell ⟨w.heap.size + 1, 1, none⟩ (.int .i64 mg)).setCell ⟨w.heap.size + 1, 2, none⟩ (.int .i64 mk)).setCell ⟨w.heap.size + 1, 3, none⟩ (.int .i64 f)) w.heap.size zeroTok) := Lib.hid (by
      unfold TokAt
      rw [Below.heap_setCell _ _ _ _ (by simp), Below.heap_setCell _ _ _ _ (by simp), Below.heap_setCell _ _ _ _ (by simp), Below.heap_setCell _ _ _ _ (by simp)]
      exact HRh.out)
    have B3 : Hid (Below w.heap.size w ((((w2.setCell ⟨w.heap.size + 1, 0, none⟩ (.int .i64 7)).setCell ⟨w.heap.size + 1, 1, none⟩ (.int .i64 mg)).setCell ⟨w.heap.size + 1, 2, none⟩ (.int .i64 mk)).setCell ⟨w.heap.size + 1, 3, none⟩ (.int .i64 f))) :=
      Lib.hid ((((B2.setCell (by simp) _).setCell (by simp) _).setCell (by simp) _).setCell (by simp) _)
    have hd : ∃ b, (mid.toList == [36]) = b ∧ (b = true → f ≤ 66) := by
      refine ⟨_, rfl, fun h => ?_⟩
      by_cases hh : mid = ⟨#[36]⟩
      · have : ¬ 66 < f := fun h2 => g2 ⟨hh, h2⟩
        omega
      · have h3 := str_eqf hh
        rw [list36] at h3
        rw [h3] at h
        cases h
    obtain ⟨b, hb1, hb2⟩ := hd
    clear g2
    cases b
    · clear hb2
      go_wp2
      exact tok_ret (y := ⟨7, mg, mk, f, p, n⟩) HE.out rfl rfl (hw3.out.put ⟨7, mg, mk, f, p, n⟩) Tryd.underlying38 rfl (by kernel_rfl) rfl (below_put B3.out (Nat.le_refl _) ⟨7, mg, mk, f, p, n⟩)
    · have hb3 := hb2 rfl
      clear hb2
      go_wp2
      exact tok_ret (y := ⟨7, mg, mk, f, p, n⟩) HE.out rfl rfl (hw3.out.put ⟨7, mg, mk, f, p, n⟩) Tryd.underlying38 rfl (by kernel_rfl) rfl (below_put B3.out (Nat.le_refl _) ⟨7, mg, mk, f, p, n⟩)

theorem spec_l03Plain (mid : ByteArray) (f p n : Int) (w : World) (h0 : 0 ≤ f) (h1 : f ≤ 255) : Calls Tryd.prog 85 #[.string mid, .int .i64 f, .int .i64 p, .int .i64 n] w (TokDone (plainTok mid f p n) w) := by
  by_cases hm : mid = ⟨#[]⟩
  · subst hm; exact spec_plain_e f p n w
  · exact spec_plain_m mid f p n w hm h0 h1

end Go.Proofs.YtbamjhldebobhaaDoor
