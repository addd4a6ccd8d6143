/- Pieces of bytes drawn, and a text of pieces. -/
import Derived.Test.YtbamjhldebobhaaDoorDrawS
import Derived.Test.YtbamjhldebobhaaDoorEscA
namespace Go.Proofs.YtbamjhldebobhaaDoor
open Go.RowKit

theorem only_size {b : Nat} {w w' : World} (h : Only b w w') (_hb : b < w.heap.size) : w.heap.size ≤ w'.heap.size := h.1.size

def RoomDone (w : World) (b : Nat) (zs : List Int) (m : Nat) (k : Int) (e : Ending) (w' : World) : Prop := (∃ r : Int, e = .returned (.int .i64 r) ∧ 0 ≤ r ∧ r ≤ k) ∧ Src w' b zs m ∧ Only b w w'
set_option maxHeartbeats 1000000 in
theorem src_room (b : Nat) (zs : List Int) (m : Nat) (k : Int) (w : World) (h : Src w b zs m) (k0 : 0 ≤ k) (_k1 : k ≤ 1000) :
    Calls Tryd.prog 47 #[.pointer (some ⟨b, 0, none⟩), .int .i64 k] w (RoomDone w b zs m k) := by
  have HS := Lib.hid h
  obtain ⟨cv, kk, seed, h1, h2, h3, h4, h5, h6, h7, h8⟩ := h
  obtain ⟨a, c, rfl⟩ := h2.form
  have c0 : w.cell? ⟨b, 0, none⟩ = some (.slice a zs.length c) := by rw [cell_of_row _ _ _ _ _ _ h1]; rfl
  have e1 : (zs.length : Int).tdiv 12 = (zs.length : Int) / 12 := Int.tdiv_eq_ediv_of_nonneg (by omega)
  have u1 : IntKind.i64.wrap ((zs.length : Int) / 12) = (zs.length : Int) / 12 := IntWalk.i64_in _ (by omega)
  have u2 : IntKind.i64.wrap (1 + (zs.length : Int) / 12) = 1 + (zs.length : Int) / 12 := IntWalk.i64_in _ (by omega)
  clear h1 h2 h3 h4 h5 h6 h8
  by_cases hm : 1 + (zs.length : Int) / 12 ≤ k
  · go_enter Tryd.func47, Tryd.ntmps47
    go_wp2
    go_ret
    exact ⟨⟨_, rfl, by omega, by omega⟩, HS.out, Only.refl _ _⟩
  · have hm' : k < 1 + (zs.length : Int) / 12 := by omega
    go_enter Tryd.func47, Tryd.ntmps47
    go_wp2
    go_ret
    exact ⟨⟨_, rfl, by omega, by omega⟩, HS.out, Only.refl _ _⟩

def PickDone (w : World) (b : Nat) (zs : List Int) (m : Nat) (ss : List ByteArray) (e : Ending) (w' : World) : Prop := (∃ t : ByteArray, e = .returned (.string t) ∧ t ∈ ss) ∧ Src w' b zs (m + 3) ∧ Only b w w'
set_option maxHeartbeats 1000000 in
theorem src_pick (b : Nat) (zs : List Int) (m g c : Nat) (ss : List ByteArray) (w : World) (h : Src w b zs m) (hm : m ≤ 1099511627000) (hl : w.heap[g]? = some (.cells (ss.map Value.string).toArray 9)) (hg : g ≠ b) (h1 : 1 ≤ ss.length) (h2 : ss.length ≤ 20) :
    Calls Tryd.prog 69 #[.pointer (some ⟨b, 0, none⟩), .slice (some ⟨g, 0, none⟩) ss.length c] w (PickDone w b zs m ss) := by
  have HS := Lib.hid h
  have HL := Lib.hid hl
  have hgl := (Array.getElem?_eq_some_iff.1 hl).1
  have e0 : ((ss.length : Int) == 0) = false := by rw [beq_eq_false_iff_ne]; omega
  clear h hl
  go_enter Tryd.func69, Tryd.ntmps69
  go_wp2_with fail
  refine (src_next b zs m (ss.length : Int) _ HS.out (by omega) (by omega)).mono ?_
  rintro e w1 ⟨⟨r, rfl, r0, r1⟩, s1, o1⟩
  obtain ⟨j, rfl⟩ : ∃ j : Nat, r = (j : Int) := ⟨r.toNat, by omega⟩
  have v1 : (0 : Int) ≤ (j : Int) := by omega
  have v2 : (j : Int) < (ss.length : Int) := by omega
  have hj : j < ss.length := by omega
  have cl : w1.cell? ⟨g, j, none⟩ = some (.string ss[j]) := by
    rw [cell_of_row _ _ _ _ _ _ ((o1.2 g hg hgl).trans HL.out)]
    simp [List.getElem?_eq_getElem hj]
  have hmem := List.getElem_mem hj
  generalize ss[j] = t at *
  go_wp2
  go_ret
  exact ⟨⟨t, rfl, hmem⟩, s1, o1⟩

theorem escN_small : ([1, 2, 3, 4, 5, 6, 7, 8] : List Nat).all (fun n => ([0, 1, 2, 3] : List Nat).all fun g => decide ((escB g (setKind n) (setFinal n)).size ≤ 8)) = true := by decide +kernel
theorem escN_small_at {n : Int} {g : Nat} (h1 : 1 ≤ n) (h8 : n ≤ 8) (hg : g < 4) : (escB g (setKind n) (setFinal n)).size ≤ 8 := by
  have h := escN_small
  rw [List.all_eq_true] at h
  obtain ⟨k, rfl⟩ : ∃ k : Nat, n = (k : Int) := ⟨n.toNat, by omega⟩
  have h2 := h k (by simp; omega)
  rw [List.all_eq_true] at h2
  have h3 := h2 g (by simp; omega)
  exact of_decide_eq_true h3

def PieceDone (w : World) (b : Nat) (zs : List Int) (m : Nat) (e : Ending) (w' : World) : Prop := (∃ t : ByteArray, e = .returned (.string t) ∧ t.size ≤ 8) ∧ Src w' b zs (m + 12) ∧ Only b w w'
set_option maxHeartbeats 2000000 in
set_option maxRecDepth 100000 in
theorem src_piece (b : Nat) (zs : List Int) (m : Nat) (w : World) (h : Src w b zs m) (hm : m ≤ 1099511620000) :
    Calls Tryd.prog 48 #[.pointer (some ⟨b, 0, none⟩)] w (PieceDone w b zs m) := by
  have HS := Lib.hid h
  have hb : b < w.heap.size := h.lt'
  clear h
  go_enter Tryd.func48, Tryd.ntmps48
  go_wp2_with fail
  refine (src_next b zs m 9 _ HS.out (by omega) (by omega)).mono ?_
  rintro e w1 ⟨⟨r, rfl, r0, r1⟩, s1, o1⟩
  have S1 := Lib.hid s1
  have O1 := Lib.hid o1
  have hz1 : w.heap.size ≤ w1.heap.size := only_size o1 hb
  clear s1 o1 HS
  have : r = 0 ∨ r = 1 ∨ r = 2 ∨ r = 3 ∨ r = 4 ∨ r = 5 ∨ (6 ≤ r ∧ r ≤ 8) := by omega
  clear r0 r1
  rcases this with rfl | rfl | rfl | rfl | rfl | rfl | ⟨ra, rb⟩
  · go_wp2_with fail
    refine (src_next b zs (m + 3) 8 _ S1.out (by omega) (by omega)).mono ?_
    rintro e w2 ⟨⟨q, rfl, q0, q1⟩, s2, o2⟩
    have hz2 : w1.heap.size ≤ w2.heap.size := only_size o2 S1.out.lt'
    have S2 := Lib.hid s2
    have O2 := Lib.hid (O1.out.trans o2)
    have u1 : IntKind.i64.wrap (1 + q) = 1 + q := IntWalk.i64_in _ (by omega)
    clear s2 o2
    go_wp2_with fail
    refine (src_next b zs (m + 3 + 3) 4 _ S2.out (by omega) (by omega)).mono ?_
    rintro e w3 ⟨⟨gi, rfl, g0, g1⟩, s3, o3⟩
    have hz3 : w2.heap.size ≤ w3.heap.size := only_size o3 S2.out.lt'
    have S3 := Lib.hid s3
    have O3 := Lib.hid (O2.out.trans o3)
    clear s3 o3
    obtain ⟨g, rfl⟩ : ∃ g : Nat, gi = (g : Int) := ⟨gi.toNat, by omega⟩
    have g4 : g < 4 := by omega
    by_cases h0 : g = 0
    · subst h0
      go_wp2_with fail
      refine (spec_l02Set (1 + q) _).mono ?_
      rintro e w4 ⟨yg, rfl, hyg, hblk, b4⟩
      have S4 := Lib.hid (S3.out.keep b4)
      have O4 := Lib.hid (O3.out.below b4 S3.out.lt' (by omega))
      have hz4 : w.heap.size ≤ w4.heap.size := by have := b4.size; omega
      clear hyg hblk b4
      unfold setV
      have F1 := setField1
      by_cases k2 : setKind (1 + q) = 2
      · have ek : (setKind (1 + q) == 2) = true := by simpa using k2
        have HX := Lib.hid (fun w => spec_l03Names 1 (1 + q) w (by omega))
        have HE := Lib.hid (escN_small_at (n := 1 + q) (g := 1) (by omega) (by omega) (by omega))
        rw [k2] at HX HE
        generalize escB 1 2 (setFinal (1 + q)) = T at *
        rw [k2]
        clear ek
        go_wp2_with fail
        refine (HX.out _).mono ?_
        rintro e w5 ⟨rfl, b5⟩
        go_wp2
        go_ret
        exact ⟨⟨_, rfl, HE.out⟩, (S4.out.more (by omega)).keep b5, O4.out.below b5 S4.out.lt' hz4⟩
      · have ek : (setKind (1 + q) == 2) = false := by rw [beq_eq_false_iff_ne]; exact k2
        go_wp2_with fail
        refine (spec_l03Names 0 (1 + q) _ (by omega)).mono ?_
        rintro e w5 ⟨rfl, b5⟩
        go_wp2
        go_ret
        exact ⟨⟨_, rfl, escN_small_at (by omega) (by omega) (by omega)⟩, (S4.out.more (by omega)).keep b5, O4.out.below b5 S4.out.lt' hz4⟩
    · have e0 : ((g : Int) == 0) = false := by rw [beq_eq_false_iff_ne]; omega
      go_wp2_with fail
      refine (spec_l03Names g (1 + q) _ (by omega)).mono ?_
      rintro e w5 ⟨rfl, b5⟩
      go_wp2
      go_ret
      exact ⟨⟨_, rfl, escN_small_at (by omega) (by omega) (by omega)⟩, (S3.out.more (by omega)).keep b5, O3.out.below b5 S3.out.lt' (by omega)⟩
  · have HL := Lib.hid (heap_alloc_new w1 (.cells #[.string ⟨#[14]⟩, .string ⟨#[15]⟩, .string ⟨#[27, 110]⟩, .string ⟨#[27, 111]⟩, .string ⟨#[27, 78]⟩, .string ⟨#[27, 79]⟩, .string ⟨#[142]⟩, .string ⟨#[143]⟩] 9))
    have S2 := Lib.hid (S1.out.keep (below_one w1 (.cells #[.string ⟨#[14]⟩, .string ⟨#[15]⟩, .string ⟨#[27, 110]⟩, .string ⟨#[27, 111]⟩, .string ⟨#[27, 78]⟩, .string ⟨#[27, 79]⟩, .string ⟨#[142]⟩, .string ⟨#[143]⟩] 9)))
    have O2 := Lib.hid (O1.out.below (below_one w1 (.cells #[.string ⟨#[14]⟩, .string ⟨#[15]⟩, .string ⟨#[27, 110]⟩, .string ⟨#[27, 111]⟩, .string ⟨#[27, 78]⟩, .string ⟨#[27, 79]⟩, .string ⟨#[142]⟩, .string ⟨#[143]⟩] 9)) S1.out.lt' hz1)
    have hbw : b < w1.heap.size := S1.out.lt'
    go_wp2_with fail
    refine (src_pick b zs (m + 3) w1.heap.size 8 [(⟨#[14]⟩ : ByteArray), (⟨#[15]⟩ : ByteArray), (⟨#[27, 110]⟩ : ByteArray), (⟨#[27, 111]⟩ : ByteArray), (⟨#[27, 78]⟩ : ByteArray), (⟨#[27, 79]⟩ : ByteArray), (⟨#[142]⟩ : ByteArray), (⟨#[143]⟩ : ByteArray)] _ S2.out (by omega) HL.out (by omega) (by decide) (by decide)).mono ?_
    generalize w1.alloc (.cells #[.string ⟨#[14]⟩, .string ⟨#[15]⟩, .string ⟨#[27, 110]⟩, .string ⟨#[27, 111]⟩, .string ⟨#[27, 78]⟩, .string ⟨#[27, 79]⟩, .string ⟨#[142]⟩, .string ⟨#[143]⟩] 9) = W1 at *
    rintro e w2 ⟨⟨t, rfl, ht⟩, s2, o2⟩
    have hts : t.size ≤ 8 := by
      have : ∀ t ∈ [(⟨#[14]⟩ : ByteArray), (⟨#[15]⟩ : ByteArray), (⟨#[27, 110]⟩ : ByteArray), (⟨#[27, 111]⟩ : ByteArray), (⟨#[27, 78]⟩ : ByteArray), (⟨#[27, 79]⟩ : ByteArray), (⟨#[142]⟩ : ByteArray), (⟨#[143]⟩ : ByteArray)], t.size ≤ 8 := by decide
      exact this t ht
    go_wp2
    go_ret
    exact ⟨⟨t, rfl, hts⟩, s2.more (by omega), O2.out.trans o2⟩
  · have HL := Lib.hid (heap_alloc_new w1 (.cells #[.string ⟨#[10]⟩, .string ⟨#[13]⟩, .string ⟨#[9]⟩, .string ⟨#[32]⟩, .string ⟨#[0]⟩, .string ⟨#[127]⟩, .string ⟨#[155]⟩] 9))
    have S2 := Lib.hid (S1.out.keep (below_one w1 (.cells #[.string ⟨#[10]⟩, .string ⟨#[13]⟩, .string ⟨#[9]⟩, .string ⟨#[32]⟩, .string ⟨#[0]⟩, .string ⟨#[127]⟩, .string ⟨#[155]⟩] 9)))
    have O2 := Lib.hid (O1.out.below (below_one w1 (.cells #[.string ⟨#[10]⟩, .string ⟨#[13]⟩, .string ⟨#[9]⟩, .string ⟨#[32]⟩, .string ⟨#[0]⟩, .string ⟨#[127]⟩, .string ⟨#[155]⟩] 9)) S1.out.lt' hz1)
    have hbw : b < w1.heap.size := S1.out.lt'
    go_wp2_with fail
    refine (src_pick b zs (m + 3) w1.heap.size 7 [(⟨#[10]⟩ : ByteArray), (⟨#[13]⟩ : ByteArray), (⟨#[9]⟩ : ByteArray), (⟨#[32]⟩ : ByteArray), (⟨#[0]⟩ : ByteArray), (⟨#[127]⟩ : ByteArray), (⟨#[155]⟩ : ByteArray)] _ S2.out (by omega) HL.out (by omega) (by decide) (by decide)).mono ?_
    generalize w1.alloc (.cells #[.string ⟨#[10]⟩, .string ⟨#[13]⟩, .string ⟨#[9]⟩, .string ⟨#[32]⟩, .string ⟨#[0]⟩, .string ⟨#[127]⟩, .string ⟨#[155]⟩] 9) = W1 at *
    rintro e w2 ⟨⟨t, rfl, ht⟩, s2, o2⟩
    have hts : t.size ≤ 8 := by
      have : ∀ t ∈ [(⟨#[10]⟩ : ByteArray), (⟨#[13]⟩ : ByteArray), (⟨#[9]⟩ : ByteArray), (⟨#[32]⟩ : ByteArray), (⟨#[0]⟩ : ByteArray), (⟨#[127]⟩ : ByteArray), (⟨#[155]⟩ : ByteArray)], t.size ≤ 8 := by decide
      exact this t ht
    go_wp2
    go_ret
    exact ⟨⟨t, rfl, hts⟩, s2.more (by omega), O2.out.trans o2⟩
  · go_wp2_with fail
    refine (src_next b zs (m + 3) 96 _ S1.out (by omega) (by omega)).mono ?_
    rintro e w2 ⟨⟨q, rfl, q0, q1⟩, s2, o2⟩
    have cl := conv_lit1 w2 (160 + q)
    have O2 := O1.out.trans o2
    have hz2 : w1.heap.size ≤ w2.heap.size := only_size o2 S1.out.lt'
    have hbs : (bs [160 + q]).size ≤ 8 := by simp [bs, ByteArray.size]
    go_wp2
    go_ret
    exact ⟨⟨_, rfl, hbs⟩, (s2.more (by omega)).keep (below_one _ _), O2.below (below_one _ _) s2.lt' (by omega)⟩
  · go_wp2_with fail
    refine (src_next b zs (m + 3) 4 _ S1.out (by omega) (by omega)).mono ?_
    rintro e w2 ⟨⟨q, rfl, q0, q1⟩, s2, o2⟩
    have hz2 : w1.heap.size ≤ w2.heap.size := only_size o2 S1.out.lt'
    have S2 := Lib.hid s2
    have O2 := Lib.hid (O1.out.trans o2)
    clear s2 o2
    go_wp2_with fail
    refine (src_next b zs (m + 3 + 3) 80 _ S2.out (by omega) (by omega)).mono ?_
    rintro e w3 ⟨⟨p, rfl, p0, p1⟩, s3, o3⟩
    have hz3 : w2.heap.size ≤ w3.heap.size := only_size o3 S2.out.lt'
    have S3 := Lib.hid s3
    have O3 := Lib.hid (O2.out.trans o3)
    clear s3 o3
    have cl := conv_lit2 w3 ((8993 + q * 256 + p) / 256) (33 + (8993 + q * 256 + p) % 94)
    have hbs : (bs [(8993 + q * 256 + p) / 256, 33 + (8993 + q * 256 + p) % 94]).size ≤ 8 := by simp [bs, ByteArray.size]
    go_wp2
    go_ret
    exact ⟨⟨_, rfl, hbs⟩, (S3.out.more (by omega)).keep (below_one _ _), O3.out.below (below_one _ _) S3.out.lt' (by omega)⟩
  · have HL := Lib.hid (heap_alloc_new w1 (.cells #[.string ⟨#[27]⟩, .string ⟨#[27, 36]⟩, .string ⟨#[27, 40]⟩, .string ⟨#[27, 36, 40, 68]⟩, .string ⟨#[27, 33, 64]⟩, .string ⟨#[27, 32, 32, 32, 32]⟩, .string ⟨#[27, 27]⟩, .string ⟨#[27, 40, 49]⟩, .string ⟨#[27, 36, 67]⟩, .string ⟨#[27, 90]⟩, .string ⟨#[27, 36, 128]⟩] 9))
    have S2 := Lib.hid (S1.out.keep (below_one w1 (.cells #[.string ⟨#[27]⟩, .string ⟨#[27, 36]⟩, .string ⟨#[27, 40]⟩, .string ⟨#[27, 36, 40, 68]⟩, .string ⟨#[27, 33, 64]⟩, .string ⟨#[27, 32, 32, 32, 32]⟩, .string ⟨#[27, 27]⟩, .string ⟨#[27, 40, 49]⟩, .string ⟨#[27, 36, 67]⟩, .string ⟨#[27, 90]⟩, .string ⟨#[27, 36, 128]⟩] 9)))
    have O2 := Lib.hid (O1.out.below (below_one w1 (.cells #[.string ⟨#[27]⟩, .string ⟨#[27, 36]⟩, .string ⟨#[27, 40]⟩, .string ⟨#[27, 36, 40, 68]⟩, .string ⟨#[27, 33, 64]⟩, .string ⟨#[27, 32, 32, 32, 32]⟩, .string ⟨#[27, 27]⟩, .string ⟨#[27, 40, 49]⟩, .string ⟨#[27, 36, 67]⟩, .string ⟨#[27, 90]⟩, .string ⟨#[27, 36, 128]⟩] 9)) S1.out.lt' hz1)
    have hbw : b < w1.heap.size := S1.out.lt'
    go_wp2_with fail
    refine (src_pick b zs (m + 3) w1.heap.size 11 [(⟨#[27]⟩ : ByteArray), (⟨#[27, 36]⟩ : ByteArray), (⟨#[27, 40]⟩ : ByteArray), (⟨#[27, 36, 40, 68]⟩ : ByteArray), (⟨#[27, 33, 64]⟩ : ByteArray), (⟨#[27, 32, 32, 32, 32]⟩ : ByteArray), (⟨#[27, 27]⟩ : ByteArray), (⟨#[27, 40, 49]⟩ : ByteArray), (⟨#[27, 36, 67]⟩ : ByteArray), (⟨#[27, 90]⟩ : ByteArray), (⟨#[27, 36, 128]⟩ : ByteArray)] _ S2.out (by omega) HL.out (by omega) (by decide) (by decide)).mono ?_
    generalize w1.alloc (.cells #[.string ⟨#[27]⟩, .string ⟨#[27, 36]⟩, .string ⟨#[27, 40]⟩, .string ⟨#[27, 36, 40, 68]⟩, .string ⟨#[27, 33, 64]⟩, .string ⟨#[27, 32, 32, 32, 32]⟩, .string ⟨#[27, 27]⟩, .string ⟨#[27, 40, 49]⟩, .string ⟨#[27, 36, 67]⟩, .string ⟨#[27, 90]⟩, .string ⟨#[27, 36, 128]⟩] 9) = W1 at *
    rintro e w2 ⟨⟨t, rfl, ht⟩, s2, o2⟩
    have hts : t.size ≤ 8 := by
      have : ∀ t ∈ [(⟨#[27]⟩ : ByteArray), (⟨#[27, 36]⟩ : ByteArray), (⟨#[27, 40]⟩ : ByteArray), (⟨#[27, 36, 40, 68]⟩ : ByteArray), (⟨#[27, 33, 64]⟩ : ByteArray), (⟨#[27, 32, 32, 32, 32]⟩ : ByteArray), (⟨#[27, 27]⟩ : ByteArray), (⟨#[27, 40, 49]⟩ : ByteArray), (⟨#[27, 36, 67]⟩ : ByteArray), (⟨#[27, 90]⟩ : ByteArray), (⟨#[27, 36, 128]⟩ : ByteArray)], t.size ≤ 8 := by decide
      exact this t ht
    go_wp2
    go_ret
    exact ⟨⟨t, rfl, hts⟩, s2.more (by omega), O2.out.trans o2⟩
  · have e0 : (r == 0) = false := by rw [beq_eq_false_iff_ne]; omega
    have e1 : (r == 1) = false := by rw [beq_eq_false_iff_ne]; omega
    have e2 : (r == 2) = false := by rw [beq_eq_false_iff_ne]; omega
    have e3 : (r == 3) = false := by rw [beq_eq_false_iff_ne]; omega
    have e4 : (r == 4) = false := by rw [beq_eq_false_iff_ne]; omega
    have e5 : (r == 5) = false := by rw [beq_eq_false_iff_ne]; omega
    go_wp2_with fail
    refine (src_next b zs (m + 3) 94 _ S1.out (by omega) (by omega)).mono ?_
    rintro e w2 ⟨⟨q, rfl, q0, q1⟩, s2, o2⟩
    have cl := conv_lit1 w2 (33 + q)
    have O2 := O1.out.trans o2
    have hz2 : w1.heap.size ≤ w2.heap.size := only_size o2 S1.out.lt'
    have hbs : (bs [33 + q]).size ≤ 8 := by simp [bs, ByteArray.size]
    go_wp2
    go_ret
    exact ⟨⟨_, rfl, hbs⟩, (s2.more (by omega)).keep (below_one _ _), O2.below (below_one _ _) s2.lt' (by omega)⟩

def RawDone (w : World) (b : Nat) (zs : List Int) (m : Nat) (e : Ending) (w' : World) : Prop := (∃ t : ByteArray, e = .returned (.string t) ∧ t.size ≤ 200) ∧ Src w' b zs (m + 200) ∧ Only b w w'
set_option maxHeartbeats 2000000 in
set_option maxRecDepth 100000 in
theorem src_raw (b : Nat) (zs : List Int) (m : Nat) (w : World) (h : Src w b zs m) (hm : m ≤ 1099511600000) :
    Calls Tryd.prog 23 #[.pointer (some ⟨b, 0, none⟩)] w (RawDone w b zs m) := by
  have HS := Lib.hid h
  have hb : b < w.heap.size := h.lt'
  clear h
  go_enter Tryd.func23, Tryd.ntmps23
  go_wp2_with fail
  refine (src_room b zs m 10 _ HS.out (by omega) (by omega)).mono ?_
  rintro e w1 ⟨⟨r, rfl, r0, r1⟩, s1, o1⟩
  have u1 : IntKind.i64.wrap (r + 3) = r + 3 := IntWalk.i64_in _ (by omega)
  have hz1 : w.heap.size ≤ w1.heap.size := only_size o1 hb
  go_wp2_with fail
  refine (src_next b zs m (r + 3) _ s1 (by omega) (by omega)).mono ?_
  rintro e w2 ⟨⟨q, rfl, q0, q1⟩, s2, o2⟩
  have hz2 : w1.heap.size ≤ w2.heap.size := only_size o2 s1.lt'
  have S2 := Lib.hid s2
  have O2 := Lib.hid (o1.trans o2)
  clear s1 o1 s2 o2 HS
  obtain ⟨n, rfl⟩ : ∃ n : Nat, q = (n : Int) := ⟨q.toNat, by omega⟩
  have hn : n ≤ 12 := by omega
  have hz3 : w.heap.size ≤ w2.heap.size := by omega
  go_wp2
  go_loopw [3, 4] (fun t i wr => ∃ (k j : Nat) (u : ByteArray), k + j = n ∧ i = .int .i64 k ∧ t = .string u ∧ u.size ≤ 8 * j ∧ Hid (Src wr b zs (m + 3 + 12 * j)) ∧ Hid (Only b w wr) ∧ w.heap.size ≤ wr.heap.size) (fun _ i _ => (intOf i).toNat)
  case atStart => exact ⟨n, 0, ⟨#[]⟩, by omega, rfl, rfl, Nat.le_refl 0, S2, O2, hz3⟩
  case round =>
    clear S2 O2 hz3
    obtain ⟨k, j, u, hkj, rfl, rfl, hu, HS, HO, hz⟩ := hrel
    by_cases hk : 0 < k
    · have v1 : 0 < (k : Int) := by omega
      have u3 : IntKind.i64.wrap ((k : Int) - 1) = (k : Int) - 1 := IntWalk.i64_in _ (by omega)
      go_wp2_with fail
      refine (src_piece b zs (m + 3 + 12 * j) _ HS.out (by omega)).mono ?_
      rintro e w3 ⟨⟨t, rfl, ht⟩, s3, o3⟩
      have c1 := fun w => cat_esc u t (by omega) w
      have hz4 : wr.heap.size ≤ w3.heap.size := only_size o3 HS.out.lt'
      have S3 := Lib.hid s3
      have O3 := Lib.hid (HO.out.trans o3)
      have hut : (u ++ t).size ≤ 8 * (j + 1) := by rw [ByteArray.size_append]; omega
      clear s3 o3
      go_wp2
      go_roundw
      case rel => exact ⟨k - 1, j + 1, u ++ t, by omega, by rw [show ((k - 1 : Nat) : Int) = (k : Int) - 1 by omega], rfl, hut, Lib.hid (S3.out.more (by omega)), O3, by omega⟩
      case measure => simp [intOf]; omega
    · have v1 : ¬ 0 < (k : Int) := by omega
      go_wp2
      go_ret
      exact ⟨⟨u, rfl, by omega⟩, HS.out.more (by omega), HO.out⟩

end Go.Proofs.YtbamjhldebobhaaDoor
