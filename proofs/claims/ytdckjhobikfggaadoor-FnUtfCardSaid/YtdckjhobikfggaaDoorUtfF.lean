/- The facts that FnUtf's walk needs, of a list of characters that may be. -/
import Derived.Test.YtdckjhobikfggaaDoorUtfM
import Derived.Test.YtdckjhobikfggaaDoorTakeC
namespace Go.Proofs.YtdckjhobikfggaaDoor
open Go.RowKit

/-- What the walk is told of a text S of the characters acc, the first of which is x, of the bytes D. -/
structure UtfFacts (acc : List Int) (S D : ByteArray) : Prop where
  tv : textV acc = S
  tc : textC acc = 0
  rc : roC S = 0
  rz : roZ S = acc
  s1 : 1 ≤ S.size
  s2 : S.size ≤ 32
  pv : putV (acc.getD 0 0) = D
  pc : putC (acc.getD 0 0) = 0
  tr : trV S 0 = .tuple #[.int .i64 (acc.getD 0 0), .int .i64 D.size, .int .i64 0]
  ok : okB (acc.getD 0 0) = true
  bv : bytesV (hexV S) = S
  bc : bytesC (hexV S) = 0
  hs : (hexV S).size ≤ 64

theorem utf_facts (acc : List Int) (hok : okAll acc = true) (h1 : 1 ≤ acc.length) (h8 : acc.length ≤ 8) : ∃ S D, UtfFacts acc S D := by
  have ⟨r1, r2⟩ := ro_text acc hok (by omega)
  have ⟨t1, t2, t3, t4⟩ := take_text acc hok 0 (by omega)
  have hz : (textZ acc 0).length = 0 := by simp [textZ]
  rw [hz] at t1 t2 t3 t4
  have hsz : (bs (textZ acc acc.length)).size ≤ 32 := by rw [size_bs]; have := textZ_le acc acc.length; omega
  have hx := okAll_at hok 0 (by omega)
  have ⟨u1, u2⟩ := unhex_hex (bs (textZ acc acc.length)) (by omega)
  have hD : ((Utf8.encode (acc.getD 0 0)).size : Int) = takeN (bs (textZ acc acc.length)) 0 := by rw [t3, ← enc_eq _ hx, size_bs]
  refine ⟨bs (textZ acc acc.length), Utf8.encode (acc.getD 0 0), ⟨?_, ?_, r1, r2, by omega, hsz, ?_, ?_, ?_, hx, u1, u2, ?_⟩⟩
  · unfold textV; rw [if_pos ⟨by omega, hok⟩]
  · unfold textC; rw [if_pos (by omega), if_pos hok]
  · unfold putV; rw [if_pos hx]
  · unfold putC; rw [if_pos hx]
  · have := trV_in (bs (textZ acc acc.length)) 0 (by omega) t4 t1
    rw [t2, ← hD] at this
    simpa using this
  · unfold hexV; rw [if_pos (by omega), size_bs, hexZ_length]
    have : (bs (textZ acc acc.length)).data.toList.length = (bs (textZ acc acc.length)).size := rfl
    omega

/-- A text with a byte 255 put in is no text. -/
theorem bad_255 (S : ByteArray) (j : Nat) (hj : j ≤ S.size) (hs : S.size ≤ 32) : ∃ T, S.extract 0 j ++ ⟨#[255]⟩ ++ S.extract j S.size = T ∧ T.size ≤ 33 ∧ roC T ≠ 0 := by
  have h1 : (S.extract 0 j).size = j := by rw [ByteArray.size_extract]; omega
  have h2 : (S.extract j S.size).size = S.size - j := by rw [ByteArray.size_extract]; omega
  have h3 : (⟨#[255]⟩ : ByteArray).size = 1 := rfl
  have hsz : (S.extract 0 j ++ ⟨#[255]⟩ ++ S.extract j S.size).size = S.size + 1 := by
    rw [ByteArray.size_append, ByteArray.size_append, h1, h2, h3]; omega
  refine ⟨_, rfl, by omega, ro_255 _ j (by omega) ?_ (by omega)⟩
  unfold byteAt
  have hl : (S.extract 0 j).data.toList.length = j := h1
  generalize S.extract 0 j = A at *
  have : (A ++ ⟨#[255]⟩ ++ S.extract j S.size).data.toList = A.data.toList ++ (255 :: (S.extract j S.size).data.toList) := by simp
  rw [this]
  simp only [List.getD]
  rw [List.getElem?_append_right (by omega), hl, Nat.sub_self]
  rfl

end Go.Proofs.YtdckjhobikfggaaDoor
