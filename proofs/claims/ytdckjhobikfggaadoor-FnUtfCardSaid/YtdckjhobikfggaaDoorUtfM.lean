/- Characters are recovered from their UTF-8; a byte 255 is never part of one; bytes are recovered from their hexadecimal text: plain laws. -/
import Derived.Test.YtdckjhobikfggaaDoorRunesM
import Derived.Test.YtdckjhobikfggaaDoorTextA
import Derived.Test.YtdckjhobikfggaaDoorUnhexB
namespace Go.Proofs.YtdckjhobikfggaaDoor

theorem byteAt_bs (zs : List Int) (h : Bytes8 zs) (j : Nat) (hj : j < zs.length) : byteAt (bs zs) j = zs.getD j 0 := by
  have ⟨h0, h1⟩ := h (zs.getD j 0) (by simp [List.getD, List.getElem?_eq_getElem hj])
  unfold byteAt bs
  simp only [List.getD, List.getElem?_map, List.getElem?_eq_getElem hj, Option.map_some, Option.getD_some] at *
  simp
  omega

theorem take_one (s : ByteArray) (k m : Nat) (r : Int) (hr : okB r = true) (hm : leadM (byteAt s k) = m) (hc : contC s m (k + 1) = 0) (hv : contR s m (k + 1) (leadR (byteAt s k)) = r) (he : encLen r = m + 1) :
    takeC s k = 0 ∧ takeR s k = r ∧ takeN s k = m + 1 := by
  have hM : takeM s k = m := by simp [takeM, hm]
  have hV : takeV s k = r := by simp [takeV, hM, hv]
  have hok : takeOK s k = true := by simp [takeOK, hV, hr, hm, he]
  have ht : takeC s k = 0 := by rw [takeC_end s k (by omega) (by rw [hM]; exact hc), if_pos hok]
  exact ⟨ht, by simp [takeR, ht, hV], by simp [takeN, ht, hm]⟩

theorem cont_one (s : ByteArray) (m p : Nat) (hp : p < s.size) (h0 : 128 ≤ byteAt s p) (h1 : byteAt s p ≤ 191) (h : contC s m (p + 1) = 0) : contC s (m + 1) p = 0 := by
  rw [contC_step s m p hp ⟨h0, h1⟩]; exact h

/-- A character is recovered where its bytes stand. -/
theorem take_enc (s : ByteArray) (k : Nat) (r : Int) (hr : okB r = true) (hb : ∀ i, i < (Lib.encodeRuneZ r).length → byteAt s (k + i) = (Lib.encodeRuneZ r).getD i 0) (hs : k + (Lib.encodeRuneZ r).length ≤ s.size) :
    takeC s k = 0 ∧ takeR s k = r ∧ takeN s k = (Lib.encodeRuneZ r).length := by
  have ⟨h0, h1, h2⟩ := okB_true hr
  by_cases a : r < 128
  · rw [Lib.encodeRuneZ_one h0 (by omega)] at *
    have b0 : byteAt s k = r := hb 0 (by simp)
    have := take_one s k 0 r hr (by rw [b0]; unfold leadM; rw [if_pos a]; rfl) rfl (by rw [b0]; unfold contR leadR; rw [if_pos a]) (by unfold encLen; rw [if_pos a]; rfl)
    simpa using this
  · by_cases b : r < 2048
    · rw [Lib.encodeRuneZ_two (by omega) (by omega)] at *
      simp only [List.length_cons, List.length_nil] at hs
      have b0 : byteAt s k = 192 + r / 64 := hb 0 (by simp)
      have b1 : byteAt s (k + 1) = 128 + r % 64 := hb 1 (by simp)
      have := take_one s k 1 r hr (by rw [b0]; unfold leadM; rw [if_neg (by omega), if_neg (by omega), if_pos (by omega)]; rfl)
        (cont_one s 0 _ (by omega) (by omega) (by omega) rfl)
        (by simp only [contR, b1]; rw [b0]; unfold leadR; rw [if_neg (by omega), if_neg (by omega), if_pos (by omega)]; omega)
        (by unfold encLen; rw [if_neg (by omega), if_pos (by omega)]; rfl)
      simpa using this
    · by_cases c : r < 65536
      · rw [Lib.encodeRuneZ_three (by omega)] at *
        simp only [List.length_cons, List.length_nil] at hs
        have b0 : byteAt s k = 224 + r / 4096 := hb 0 (by simp)
        have b1 : byteAt s (k + 1) = 128 + r / 64 % 64 := hb 1 (by simp)
        have b2 : byteAt s (k + 1 + 1) = 128 + r % 64 := hb 2 (by simp)
        have := take_one s k 2 r hr (by rw [b0]; unfold leadM; rw [if_neg (by omega), if_neg (by omega), if_neg (by omega), if_pos (by omega)]; rfl)
          (cont_one s 1 _ (by omega) (by omega) (by omega) (cont_one s 0 _ (by omega) (by omega) (by omega) rfl))
          (by simp only [contR, b1, b2]; rw [b0]; unfold leadR; rw [if_neg (by omega), if_neg (by omega), if_neg (by omega), if_pos (by omega)]; omega)
          (by unfold encLen; rw [if_neg (by omega), if_neg (by omega), if_pos (by omega)]; rfl)
        simpa using this
      · rw [Lib.encodeRuneZ_four (by omega) (by omega)] at *
        simp only [List.length_cons, List.length_nil] at hs
        have b0 : byteAt s k = 240 + r / 262144 := hb 0 (by simp)
        have b1 : byteAt s (k + 1) = 128 + r / 4096 % 64 := hb 1 (by simp)
        have b2 : byteAt s (k + 1 + 1) = 128 + r / 64 % 64 := hb 2 (by simp)
        have b3 : byteAt s (k + 1 + 1 + 1) = 128 + r % 64 := hb 3 (by simp)
        have := take_one s k 3 r hr (by rw [b0]; unfold leadM; rw [if_neg (by omega), if_neg (by omega), if_neg (by omega), if_neg (by omega), if_pos (by omega)]; rfl)
          (cont_one s 2 _ (by omega) (by omega) (by omega) (cont_one s 1 _ (by omega) (by omega) (by omega) (cont_one s 0 _ (by omega) (by omega) (by omega) rfl)))
          (by simp only [contR, b1, b2, b3]; rw [b0]; unfold leadR; rw [if_neg (by omega), if_neg (by omega), if_neg (by omega), if_neg (by omega), if_pos (by omega)]; omega)
          (by unfold encLen; rw [if_neg (by omega), if_neg (by omega), if_neg (by omega)]; rfl)
        simpa using this

theorem encZ_pos (r : Int) : 1 ≤ (Lib.encodeRuneZ r).length := by
  have := (Lib.runeCells_le r).1
  simpa [Lib.runeCells] using this

/-- The bytes of a text, split at a character. -/
theorem text_split (zs : List Int) (j : Nat) (hj : j < zs.length) : textZ zs zs.length = textZ zs j ++ (Lib.encodeRuneZ (zs.getD j 0) ++ (zs.drop (j + 1)).flatMap Lib.encodeRuneZ) := by
  unfold textZ
  rw [List.take_length]
  conv => lhs; rw [← List.take_append_drop j zs, List.drop_eq_getElem_cons hj]
  rw [List.flatMap_append, List.flatMap_cons]
  simp [List.getD, List.getElem?_eq_getElem hj]

theorem getD_mid (a b c : List Int) (i : Nat) (hi : i < b.length) : (a ++ (b ++ c)).getD (a.length + i) 0 = b.getD i 0 := by
  simp only [List.getD]
  rw [List.getElem?_append_right (by omega), Nat.add_sub_cancel_left, List.getElem?_append_left hi]

theorem take_text (zs : List Int) (hok : okAll zs = true) (j : Nat) (hj : j < zs.length) :
    takeC (bs (textZ zs zs.length)) (textZ zs j).length = 0 ∧ takeR (bs (textZ zs zs.length)) (textZ zs j).length = zs.getD j 0 ∧ takeN (bs (textZ zs zs.length)) (textZ zs j).length = (Lib.encodeRuneZ (zs.getD j 0)).length ∧ (textZ zs j).length < (bs (textZ zs zs.length)).size := by
  have hs := text_split zs j hj
  have h1 := encZ_pos (zs.getD j 0)
  have hlen : (textZ zs j).length + (Lib.encodeRuneZ (zs.getD j 0)).length ≤ (bs (textZ zs zs.length)).size := by
    rw [size_bs, hs]; simp
  have := take_enc (bs (textZ zs zs.length)) (textZ zs j).length (zs.getD j 0) (okAll_at hok j hj) (fun i hi => by
    rw [byteAt_bs _ (textZ_bytes _ _) _ (by rw [size_bs] at hlen; omega), hs]
    exact getD_mid _ _ _ _ hi) hlen
  exact ⟨this.1, this.2.1, this.2.2, by omega⟩

theorem runes_text (zs : List Int) (hok : okAll zs = true) : ∀ n j f, n = zs.length - j → j ≤ zs.length → n ≤ f →
    runesZ (bs (textZ zs zs.length)) f (textZ zs j).length = zs.drop j ∧ runesC (bs (textZ zs zs.length)) f (textZ zs j).length = 0
  | 0, j, f, hn, hj, _ => by
    have hjl : j = zs.length := by omega
    have ⟨e1, e2, _⟩ := runes_end (bs (textZ zs zs.length)) f (textZ zs j).length (by rw [size_bs, hjl]; omega)
    exact ⟨by rw [e1, hjl]; simp, e2⟩
  | n + 1, j, f, hn, hj, hf => by
    obtain ⟨f, rfl⟩ : ∃ g, f = g + 1 := ⟨f - 1, by omega⟩
    have hj' : j < zs.length := by omega
    have ⟨t1, t2, t3, t4⟩ := take_text zs hok j hj'
    have ⟨e1, e2, _⟩ := runes_step _ f _ t4 t1
    have hst : stepN (bs (textZ zs zs.length)) (textZ zs j).length = (Lib.encodeRuneZ (zs.getD j 0)).length := by unfold stepN; rw [t3]; omega
    have hnext : (textZ zs j).length + stepN (bs (textZ zs zs.length)) (textZ zs j).length = (textZ zs (j + 1)).length := by
      rw [hst, textZ_succ zs j hj', List.length_append]
    rw [hnext] at e1 e2
    have ⟨i1, i2⟩ := runes_text zs hok n (j + 1) f (by omega) (by omega) (by omega)
    refine ⟨?_, by rw [e2, i2]⟩
    rw [e1, i1, t2, List.drop_eq_getElem_cons hj']
    simp [List.getD, List.getElem?_eq_getElem hj']

/-- Characters are recovered from their text. -/
theorem ro_text (zs : List Int) (hok : okAll zs = true) (hl : zs.length ≤ 4096) : roC (bs (textZ zs zs.length)) = 0 ∧ roZ (bs (textZ zs zs.length)) = zs := by
  have hz : (bs (textZ zs zs.length)).size ≤ 4 * zs.length := by rw [size_bs]; exact textZ_le zs zs.length
  have hz2 : zs.length ≤ (bs (textZ zs zs.length)).size := by
    rw [size_bs]
    have : ∀ j, j ≤ zs.length → j ≤ (textZ zs j).length := by
      intro j
      induction j with
      | zero => intro _; omega
      | succ j ih =>
        intro hj
        have := ih (by omega)
        rw [textZ_succ zs j (by omega), List.length_append]
        have := encZ_pos (zs.getD j 0)
        omega
    exact this zs.length (Nat.le_refl _)
  have h0 : (textZ zs 0).length = 0 := by simp [textZ]
  have ⟨i1, i2⟩ := runes_text zs hok zs.length 0 (bs (textZ zs zs.length)).size (by omega) (by omega) hz2
  rw [h0] at i1 i2
  have hc : roC (bs (textZ zs zs.length)) = 0 := by
    unfold roC
    rw [if_neg (by omega), if_pos i2, i1, if_neg (by simp; omega)]
  exact ⟨hc, by unfold roZ; rw [if_pos hc, i1]; simp⟩

theorem cont_bytes (s : ByteArray) : ∀ m p, contC s m p = 0 → ∀ i, i < m → byteAt s (p + i) ≤ 191
  | 0, _, _, i, hi => absurd hi (by omega)
  | m + 1, p, h, i, hi => by
    have ⟨h1, h2⟩ := (contC_succ s m p).1 h
    have h3 := (contB_iff s p).1 h1
    cases i with
    | zero => exact h3.2.2
    | succ i =>
      have := cont_bytes s m (p + 1) h2 i (by omega)
      rwa [show p + 1 + i = p + (i + 1) by omega] at this

theorem take_cont (s : ByteArray) (k : Nat) (h : takeC s k = 0) : contC s (takeM s k) (k + 1) = 0 ∧ stepN s k = takeM s k + 1 ∧ 0 ≤ leadM (byteAt s k) := by
  have hl := leadM_le (byteAt s k)
  have hn : ¬ leadM (byteAt s k) < 0 := by
    intro h'
    rw [takeC_lead s k h'] at h; cases h
  refine ⟨?_, by unfold stepN takeN takeM; rw [if_pos h]; omega, by omega⟩
  unfold takeC at h
  rw [if_neg hn] at h
  split at h
  · next h' => exact h'
  · exact h

/-- Where a byte 255 stands, the characters end in a fault. -/
theorem runes_255 (s : ByteArray) (p : Nat) (hp : p < s.size) (hb : byteAt s p = 255) : ∀ f k, k ≤ p → s.size ≤ k + f → runesC s f k ≠ 0
  | 0, k, h1, h2 => by omega
  | f + 1, k, h1, h2 => by
    have hk : k < s.size := by omega
    by_cases hc : takeC s k = 0
    · have ⟨c1, c2, c3⟩ := take_cont s k hc
      have hne : k ≠ p := by
        intro e
        rw [e, hb] at c3
        exact absurd c3 (by decide)
      have hle : k + stepN s k ≤ p := by
        rcases Nat.lt_or_ge p (k + stepN s k) with h | h
        · have := cont_bytes s (takeM s k) (k + 1) c1 (p - (k + 1)) (by omega)
          rw [show k + 1 + (p - (k + 1)) = p by omega, hb] at this
          omega
        · exact h
      have ⟨_, e2, _⟩ := runes_step s f k hk hc
      rw [e2]
      exact runes_255 s p hp hb f _ hle (by omega)
    · have ⟨_, e2, _⟩ := runes_bad s f k hk hc
      rw [e2]; exact hc
theorem ro_255 (s : ByteArray) (p : Nat) (hp : p < s.size) (hb : byteAt s p = 255) (hs : s.size ≤ 65536) : roC s ≠ 0 := by
  have := runes_255 s p hp hb s.size 0 (by omega) (by omega)
  unfold roC
  rw [if_neg (by omega), if_neg this]
  exact this

theorem digV_hexd (n : Int) (h0 : 0 ≤ n) (h1 : n < 16) : digV (hexd n) = n := by
  unfold hexd digV
  split
  · rw [if_pos (by omega)]; omega
  · rw [if_neg (by omega), if_pos (by omega)]; omega
theorem hexZ_at (l : List UInt8) : ∀ i, i < l.length → (hexZ l).getD (2 * i) 0 = hexd ((l.getD i 0).toNat / 16) ∧ (hexZ l).getD (2 * i + 1) 0 = hexd ((l.getD i 0).toNat % 16) := by
  induction l with
  | nil => intro i hi; cases hi
  | cons b r ih =>
    intro i hi
    cases i with
    | zero => exact ⟨rfl, rfl⟩
    | succ i =>
      have := ih i (by simpa using hi)
      rw [show 2 * (i + 1) = 2 * i + 1 + 1 by omega]
      exact this

/-- Bytes are recovered from their hexadecimal text. -/
theorem unhex_hex (s : ByteArray) (hs : s.size ≤ 32768) : bytesV (hexV s) = s ∧ bytesC (hexV s) = 0 := by
  have hv : hexV s = bs (hexZ s.data.toList) := by simp [hexV, hs]
  have hsz : (hexV s).size = 2 * s.size := by rw [hv, size_bs, hexZ_length]; rfl
  have hb := hexZ_bytes s.data.toList
  have hl : s.data.toList.length = s.size := by simp
  have hat : ∀ i, i < s.size → pairV (hexV s) i = ((s.data.toList.getD i 0).toNat : Int) ∧ pairOK (hexV s) i = true := by
    intro i hi
    have hc := (s.data.toList.getD i 0).toNat_lt
    have ⟨e1, e2⟩ := hexZ_at s.data.toList i (by omega)
    have l1 := hexZ_length s.data.toList
    have d1 : digV (byteAt (hexV s) (2 * i)) = (s.data.toList.getD i 0).toNat / 16 := by
      rw [hv, byteAt_bs _ hb _ (by omega), e1, digV_hexd _ (by omega) (by omega)]
    have d2 : digV (byteAt (hexV s) (2 * i + 1)) = (s.data.toList.getD i 0).toNat % 16 := by
      rw [hv, byteAt_bs _ hb _ (by omega), e2, digV_hexd _ (by omega) (by omega)]
    unfold pairV pairOK
    rw [d1, d2]
    refine ⟨by omega, ?_⟩
    simp
    omega
  have hok : unOK (hexV s) = true := by
    have : okTo (hexV s) ((hexV s).size / 2) = true := by
      unfold okTo
      rw [List.all_eq_true]
      intro i hi
      exact (hat i (by simp at hi; omega)).2
    have h2 : decide ((hexV s).size % 2 = 0) = true := by rw [hsz]; simp
    rw [unOK, this, h2]; rfl
  have hz : unZ (hexV s) ((hexV s).size / 2) = s.data.toList.map fun b => (b.toNat : Int) := by
    rw [hsz, Nat.mul_div_cancel_left _ (by decide)]
    apply List.ext_getElem?
    intro i
    by_cases hi : i < s.size
    · unfold unZ
      rw [List.getElem?_map, List.getElem?_range hi, Option.map_some, (hat i hi).1, List.getElem?_map, List.getD, List.getElem?_eq_getElem (by omega)]
      simp
    · rw [List.getElem?_eq_none (by rw [unZ_length]; omega), List.getElem?_eq_none (by rw [List.length_map]; omega)]
  refine ⟨?_, ?_⟩
  · unfold bytesV
    rw [if_pos (by omega), unV, if_pos hok, hz]
    apply ByteArray.ext
    apply Array.toList_inj.1
    show (s.data.toList.map fun b => (b.toNat : Int)).map (fun n => UInt8.ofNat n.toNat) = s.data.toList
    rw [List.map_map]
    conv => rhs; rw [← List.map_id s.data.toList]
    apply List.map_congr_left
    intro b _
    simp
  · unfold bytesC
    rw [if_pos (by omega), unC, if_pos hok]

end Go.Proofs.YtdckjhobikfggaaDoor
