/- BytesOf, the program's and the model's: contracts. Lengths at most 2^20. -/
import Derived.Test.YtdegpogjenfpaaaHexB
import Derived.Test.YtdegpogjenfpaaaNameA
import Derived.Test.YtdegpogjenfpaaaLayI
namespace Go.Proofs.Ytdegpogjenfpaaa
open Go.RowKit

def digV (c : Int) : Int := if 48 ≤ c ∧ c ≤ 57 then c - 48 else if 97 ≤ c ∧ c ≤ 102 then c - 87 else -1
theorem digV_le (c : Int) : -1 ≤ digV c ∧ digV c ≤ 15 := by unfold digV; split <;> (try split) <;> omega

theorem spec_l01Digit (c : Int) (w : World) (h0 : 0 ≤ c) (h1 : c < 256) : Calls Try.prog 41 #[.int .u8 c] w fun e w' => e = .returned (.int .i64 (digV c)) ∧ w = w' := by
  by_cases hd : digB c = true
  · have hv : Hid (digV c = c - 48) := by
      have : 48 ≤ c ∧ c ≤ 57 := by simpa [digB] using hd
      exact Lib.hid (by simp [digV, this])
    go_enter Try.func41, Try.ntmps41
    go_wp2_with (go_at_call 37; refine (spec_l00Digit _ _).mono ?_; rintro e w' ⟨rfl, rfl⟩)
    go_ret
    exact ⟨ret_int hv.out.symm, rfl⟩
  · have hn : ¬ (48 ≤ c ∧ c ≤ 57) := by intro h; exact hd (by simpa [digB] using h)
    have hd' : digB c = false := by simpa using hd
    have hv : Hid (digV c = if 97 ≤ c ∧ c ≤ 102 then c - 87 else -1) := Lib.hid (by simp [digV, hn])
    clear hd hn
    by_cases h3 : 97 ≤ c
    · by_cases h4 : c ≤ 102
      all_goals
        go_enter Try.func41, Try.ntmps41
        go_wp2_with (go_at_call 37; refine (spec_l00Digit _ _).mono ?_; rintro e w' ⟨rfl, rfl⟩)
        go_ret
        exact ⟨ret_int (by rw [hv.out]; first | rw [if_pos (by omega)] | rw [if_neg (by omega)]), rfl⟩
    · go_enter Try.func41, Try.ntmps41
      go_wp2_with (go_at_call 37; refine (spec_l00Digit _ _).mono ?_; rintro e w' ⟨rfl, rfl⟩)
      go_ret
      exact ⟨ret_int (by rw [hv.out, if_neg (by omega)]), rfl⟩

def hexDigs : ByteArray := ⟨#[48, 49, 50, 51, 52, 53, 54, 55, 56, 57, 97, 98, 99, 100, 101, 102]⟩
theorem index_all : ∀ n : Fin 256, Lib.indexByte hexDigs.data.toList ((n.val : Int).toNat.toUInt8) = digV (n.val : Int) := by decide +kernel
theorem str_IndexByte (c : Int) (w : World) (h0 : 0 ≤ c) (h1 : c < 256) : Calls Try.prog 42 #[.string hexDigs, .int .u8 c] w fun e w' => e = .returned (.int .i64 (digV c)) ∧ w = w' := by
  refine (Any.strings_IndexByte Try.layI137 hexDigs c w).mono ?_
  rintro e w' ⟨rfl, rfl⟩
  have := index_all ⟨c.toNat, by omega⟩
  simp only at this
  have hc : ((c.toNat : Nat) : Int) = c := by omega
  rw [hc] at this
  exact ⟨by rw [this], rfl⟩

/-- The byte at a place (0 behind the end). -/
def byteAt (s : ByteArray) (j : Nat) : Int := ((s.data.toList.getD j 0).toNat : Int)
theorem byteAt_eq (s : ByteArray) (j : Nat) (h : j < s.size) : byteAt s j = (s[j].toNat : Int) := by
  unfold byteAt
  rw [List.getD, List.getElem?_eq_getElem (by simpa using h)]
  rfl
theorem byteAt_le (s : ByteArray) (j : Nat) : 0 ≤ byteAt s j ∧ byteAt s j < 256 := by
  unfold byteAt; have := (s.data.toList.getD j 0).toNat_lt; omega

def pairV (s : ByteArray) (i : Nat) : Int := 16 * digV (byteAt s (2 * i)) + digV (byteAt s (2 * i + 1))
def pairOK (s : ByteArray) (i : Nat) : Bool := decide (0 ≤ digV (byteAt s (2 * i))) && decide (0 ≤ digV (byteAt s (2 * i + 1)))
def unZ (s : ByteArray) (n : Nat) : List Int := (List.range n).map (pairV s)
def okTo (s : ByteArray) (n : Nat) : Bool := (List.range n).all (pairOK s)
def unOK (s : ByteArray) : Bool := decide (s.size % 2 = 0) && okTo s (s.size / 2)
def unV (s : ByteArray) : ByteArray := if unOK s = true then bs (unZ s (s.size / 2)) else ⟨#[]⟩

theorem unZ_length (s : ByteArray) (n : Nat) : (unZ s n).length = n := by simp [unZ]
theorem unZ_succ (s : ByteArray) (n : Nat) : unZ s (n + 1) = unZ s n ++ [pairV s n] := by simp [unZ, List.range_succ]
theorem okTo_succ (s : ByteArray) (n : Nat) : okTo s (n + 1) = (okTo s n && pairOK s n) := by simp [okTo, List.range_succ]
theorem okTo_le (s : ByteArray) (n m : Nat) (h : n ≤ m) (hm : okTo s m = true) : okTo s n = true := by
  unfold okTo at *
  rw [List.all_eq_true] at *
  intro i hi
  exact hm i (by simp at hi ⊢; omega)
theorem unOK_bad (s : ByteArray) (m : Nat) (hm : m < s.size / 2) (hp : pairOK s m = false) : unOK s = false := by
  by_cases h : okTo s (s.size / 2) = true
  · have := okTo_le s (m + 1) _ (by omega) h
    rw [okTo_succ, hp] at this
    simp at this
  · have : okTo s (s.size / 2) = false := by simpa using h
    simp [unOK, this]
theorem pairV_byte (s : ByteArray) (i : Nat) (h : pairOK s i = true) : 0 ≤ pairV s i ∧ pairV s i < 256 := by
  simp [pairOK] at h
  have h1 := digV_le (byteAt s (2 * i))
  have h2 := digV_le (byteAt s (2 * i + 1))
  unfold pairV; omega
theorem unZ_bytes (s : ByteArray) (n : Nat) (h : okTo s n = true) : Bytes8 (unZ s n) := by
  induction n with
  | zero => exact Bytes8.nil
  | succ n ih =>
    rw [okTo_succ] at h
    simp at h
    rw [unZ_succ]
    have := pairV_byte s n h.2
    exact (ih h.1).append (Bytes8.one this.1 this.2)

theorem pair_at (s : ByteArray) (m j : Nat) (hj : j = 2 * m) (h : j + 1 < s.size) : pairV s m = 16 * digV s[j].toNat + digV s[j + 1].toNat ∧ pairOK s m = (decide (0 ≤ digV s[j].toNat) && decide (0 ≤ digV s[j + 1].toNat)) := by
  subst hj
  unfold pairV pairOK
  rw [byteAt_eq s (2 * m) (by omega), byteAt_eq s (2 * m + 1) h]
  exact ⟨rfl, rfl⟩

set_option maxHeartbeats 400000 in
theorem spec_l01Bytes (s : ByteArray) (w : World) (hs : s.size ≤ 1048576) : Calls Try.prog 34 #[.string s] w fun e w' => e = .returned (.tuple #[.string (unV s), .bool (unOK s)]) ∧ Below w.heap.size w w' := by
  by_cases h2 : s.size % 2 = 0
  · have H2 := Lib.hid h2
    have hd : (((s.size : Int) % 2) != 0) = false := by
      have : (s.size : Int) % 2 = 0 := by omega
      rw [this]; rfl
    clear h2
    go_enter Try.func34, Try.ntmps34
    go_wp2
    go_loopw [4, 5] (fun v i wr => ∃ j : Nat, j ≤ s.size ∧ Hid (j % 2 = 0) ∧ i = .int .i64 j ∧ Hid (okTo s (j / 2) = true) ∧ Own .u8 5 wr w.heap.size v (unZ s (j / 2)) ∧ Below w.heap.size w wr) (fun _ i _ => s.size - (intOf i).toNat)
    case atStart => exact ⟨0, Nat.zero_le _, Lib.hid rfl, rfl, Lib.hid rfl, Own.lit .u8 5 w w.heap.size [] (Nat.le_refl _) (Nat.zero_le _), (Below.refl _ _).alloc (Nat.le_refl _) _⟩
    case round =>
      obtain ⟨j, hj, HJ, rfl, HO, ho, hb⟩ := hrel
      by_cases hlt : j < s.size
      · have hlt1 : j + 1 < s.size := by have := HJ.out; have := H2.out; omega
        have hlt2 : (j : Int) + 1 < (s.size : Int) := by omega
        have ⟨p1, p2⟩ := pair_at s (j / 2) j (by have := HJ.out; omega) hlt1
        have P1 := Lib.hid p1
        have P2 := Lib.hid p2
        have d1 := digV_le s[j].toNat
        have d2 := digV_le s[j + 1].toNat
        have b1 := s[j].toNat_lt
        have b2 := s[j + 1].toNat_lt
        clear p1 p2
        by_cases q : 0 ≤ digV s[j].toNat ∧ 0 ≤ digV s[j + 1].toNat
        · obtain ⟨q1, q2⟩ := q
          go_wp2_with fail
          refine (spec_l01Digit _ _ (by omega) (by omega)).mono ?_
          rintro e w' ⟨rfl, rfl⟩
          go_wp2_with fail
          refine (spec_l01Digit _ _ (by omega) (by omega)).mono ?_
          rintro e w' ⟨rfl, rfl⟩
          go_wp2_with (at_builtin; refine app_u8 _ rfl _ _ rfl w.heap.size _ _ rfl (ho.alloc _) ⟨wr.heap.size, 0, none⟩ 1 1 [16 * digV s[j].toNat + digV s[j + 1].toNat] rfl rfl (by omega) (World.news_of_block (heap_alloc_new _ _)) (by rw [unZ_length]; omega) (by have := hb.size; simp; omega) ?_)
          intro g cap w1 hown hgrow hlt1
          have hown2 : Own .u8 5 w1 w.heap.size (.slice (some ⟨g, 0, none⟩) ((unZ s (j / 2)).length + 1) cap) (unZ s ((j + 2) / 2)) := by
            rw [show (j + 2) / 2 = j / 2 + 1 by omega, unZ_succ, P1.out]
            exact hown
          have hok : Hid (okTo s ((j + 2) / 2) = true) := Lib.hid (by
            rw [show (j + 2) / 2 = j / 2 + 1 by omega, okTo_succ, HO.out, P2.out]; simp [q1, q2])
          have hb1 : Below w.heap.size w w1 := (hb.alloc hb.size _).grown hgrow (by have := hb.size; simp; omega) (fun g hg => (World.ownsRow.lt ho g hg).1)
          clear hown hgrow ho
          go_wp2
          go_roundw
          case rel => exact ⟨j + 2, by omega, Lib.hid (by have := HJ.out; omega), by go_num, hok, hown2, hb1⟩
          case measure => simp [intOf]; omega
        · have HB : Hid (unOK s = false) := Lib.hid (unOK_bad s (j / 2) (by omega) (by rw [P2.out, ← Bool.decide_and]; exact decide_eq_false q))
          have HV : Hid (unV s = ⟨#[]⟩) := Lib.hid (by simp [unV, HB.out])
          by_cases q1 : 0 ≤ digV s[j].toNat
          · have q2 : digV s[j + 1].toNat < 0 := by omega
            go_wp2_with fail
            refine (spec_l01Digit _ _ (by omega) (by omega)).mono ?_
            rintro e w' ⟨rfl, rfl⟩
            go_wp2_with fail
            refine (spec_l01Digit _ _ (by omega) (by omega)).mono ?_
            rintro e w' ⟨rfl, rfl⟩
            go_wp2
            go_ret2
            rw [HB.out, HV.out]
            exact ⟨rfl, hb⟩
          · have q2 : digV s[j].toNat < 0 := by omega
            go_wp2_with fail
            refine (spec_l01Digit _ _ (by omega) (by omega)).mono ?_
            rintro e w' ⟨rfl, rfl⟩
            go_wp2_with fail
            refine (spec_l01Digit _ _ (by omega) (by omega)).mono ?_
            rintro e w' ⟨rfl, rfl⟩
            go_wp2
            go_ret2
            rw [HB.out, HV.out]
            exact ⟨rfl, hb⟩
      · have hc := conv_own ho
        have hjs : j = s.size := by omega
        have HB : Hid (unOK s = true) := Lib.hid (by have := HO.out; rw [hjs] at this; simp [unOK, H2.out, this])
        have HV : Hid (unV s = bs (unZ s (j / 2))) := Lib.hid (by simp [unV, HB.out, hjs])
        clear hjs
        go_wp2
        go_ret2
        rw [HB.out, HV.out]
        exact ⟨rfl, hb⟩
  · have hd : (((s.size : Int) % 2) != 0) = true := by
      have : (s.size : Int) % 2 = 1 := by omega
      rw [this]; rfl
    have HB : Hid (unOK s = false) := Lib.hid (by simp [unOK]; omega)
    have HV : Hid (unV s = ⟨#[]⟩) := Lib.hid (by simp [unV, HB.out])
    clear h2
    go_enter Try.func34, Try.ntmps34
    go_wp2
    go_ret2
    rw [HB.out, HV.out]
    exact ⟨rfl, Below.refl _ _⟩

end Go.Proofs.Ytdegpogjenfpaaa
